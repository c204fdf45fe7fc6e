/- FramesBack (stage 16) walked, over any package of frames as they come. -/
import Derived.Test.YtlmolmmhkddpaaaHp
namespace Go.Proofs.Ytlmolmmhkddpaaa
open Go.RowKit
attribute [local go_sem] store_one Oper.semAt_some B_match B_store S_match S_store

theorem fback_early {w W : World} {x : Bool} {tmps : Array Value} {b : Nat} (hr : Row W b #[.bool x] 4) (hx : x = true) (hb : Below w.heap.size w W) (ht : tmps[4]? = some (.pointer (some ⟨b, 0, none⟩))) :
    bodyPostM Fence.wide 5 Try.prog Try.f8 (fun e w' => e = .returned (.bool true) ∧ Below w.heap.size w w') .ret { tmps := tmps, defers := [] } W := by
  subst hx
  have hc := cell_of_row W _ 0 _ 4 (0, 0) hr
  exact ⟨.bool true, by simp [results, Try.f8, go_sem, hc, ht], rfl, hb⟩
theorem fback_end {w W : World} {tmps : Array Value} {b D : Nat} (hr : Row W b #[.bool true] 4) (hb : Below w.heap.size w W) (hd : W.heap[D]? = some (.deferred (some []))) (hD : w.heap.size ≤ D) (ht : tmps[4]? = some (.pointer (some ⟨b, 0, none⟩))) :
    bodyPostM Fence.wide 5 Try.prog Try.f8 (fun e w' => e = .returned (.bool true) ∧ Below w.heap.size w w') .ret { tmps := tmps, defers := [{ target := .collected D, args := #[] }] } W := by
  have ca := cell_of_row W _ 0 _ 4 (0, 0) hr
  refine ⟨by simp, .inl ⟨_, _, rfl, run_takeDeferred hd, ?_⟩⟩
  have hc : (W.putObj D (.deferred none)).cell? ⟨b, 0, none⟩ = some (.bool true) :=
    cell_kept ca (grownBy_putObj' _ _ (.deferred none)) (fun r e => by cases e; exact ⟨_, hd, rfl⟩)
  have hsz := hb.size
  refine ⟨.bool true, ?_, rfl, hb.grown (grownBy_putObj' _ _ _) hsz (fun k e => by cases e; omega)⟩
  simp [results, Try.f8, go_sem, hc, ht]
/-- What stands around the first loop behind i frames. -/
structure BkI (w : World) (b4 b6 b7 base : Nat) (Vs : Value) (l : List Frm) (W : World) : Prop where
  r4 : Row W b4 #[.bool false] 4
  r6 : Row W b6 #[Vs] 48
  r7 : Row W b7 opsC 3
  sent : FrR base Vs l W
  bel : Below w.heap.size w W
  low : w.heap.size ≤ b4 ∧ b4 < base ∧ w.heap.size ≤ b6 ∧ b6 < base ∧ b7 < base ∧ b4 ≠ b6 ∧ b6 ≠ b7 ∧ base ≤ W.heap.size
theorem BkI.below {w W W' : World} {b4 b6 b7 base : Nat} {Vs : Value} {l : List Frm} (h : BkI w b4 b6 b7 base Vs l W) (hb : Below W.heap.size W W') : BkI w b4 b6 b7 base Vs l W' :=
  ⟨h.r4.below hb h.r4.lt, h.r6.below hb h.r6.lt, h.r7.below hb h.r7.lt, h.sent.below hb, h.bel.trans (hb.mono h.bel.size), by have := h.low; have := hb.size; omega⟩
/-- What stands around the walk behind some events: how many frames were told whole, the text so far. -/
structure QInv (w : World) (b b6 b13 : Nat) (base : Nat) (V : Value) (L : List Frm) (x : Nat × List UInt8) (Fc : Nat → Prop) (W : World) : Prop where
  r4 : Row W b #[.bool false] 4
  r6 : Row W b6 #[V] 48
  sent : FrR base V L W
  r13 : Row W b13 #[.int .i64 x.1] 3
  r14 : Row W (b13 + 1) #[S x.2] 9
  bel : Below w.heap.size w W
  nf : ¬ Fc b ∧ ¬ Fc b6 ∧ ¬ Fc b13 ∧ ¬ Fc (b13 + 1) ∧ ∀ k, V.ownBlock = some k → ¬ Fc k
  foot : ∀ k, Fc k → w.heap.size ≤ k
theorem QInv.moves {w W W' : World} {b b6 b13 base : Nat} {V : Value} {L : List Frm} {x : Nat × List UInt8} {Fc Fc' : Nat → Prop} (h : QInv w b b6 b13 base V L x Fc W) (hm : Moves Fc Fc' W W') : QInv w b b6 b13 base V L x Fc' W' := by
  have key : ∀ k, k < W.heap.size → ¬ Fc k → ¬ Fc' k := fun k hk hn e => by rcases hm.foot _ e with h1 | h1; exact hn h1; omega
  exact ⟨h.r4.moves hm h.nf.1, h.r6.moves hm h.nf.2.1, h.sent.same fun j hj => hm.rest j (h.sent.lt hj).2 (h.nf.2.2.2.2 j hj), h.r13.moves hm h.nf.2.2.1, h.r14.moves hm h.nf.2.2.2.1, h.bel.trans (hm.below h.foot h.bel.size),
    ⟨key _ h.r4.lt h.nf.1, key _ h.r6.lt h.nf.2.1, key _ h.r13.lt h.nf.2.2.1, key _ h.r14.lt h.nf.2.2.2.1, fun k hk => key k (h.sent.lt hk).2 (h.nf.2.2.2.2 k hk)⟩, hm.from h.foot h.bel.size⟩
theorem QInv.put14 {w W : World} {b b6 b13 base : Nat} {V : Value} {L : List Frm} {x : Nat × List UInt8} {Fc : Nat → Prop} (h : QInv w b b6 b13 base V L x Fc W) (h1 : b < b13) (h2 : b6 < b13) (h3 : ∀ k, V.ownBlock = some k → k < b13) (h4 : w.heap.size ≤ b) (hl : ∀ k, Fc k → k < W.heap.size) (t : List UInt8) :
    Kept Fc W (W.setCell ⟨b13 + 1, 0, none⟩ (S t)) ∧ QInv w b b6 b13 base V L (x.1, t) Fc (W.setCell ⟨b13 + 1, 0, none⟩ (S t)) := by
  have hso := set_grown W (b13 + 1) 0 (S t)
  have hs : ∀ k, some k = some (b13 + 1) → k = b13 + 1 := fun k e => Option.some.inj e
  exact ⟨⟨hso.size, fun r hr => hso.block r (hl r hr) (fun e => h.nf.2.2.2.1 (hs r e ▸ hr))⟩,
    row_grown h.r4 hso (fun e => by have := hs _ e; omega), row_grown h.r6 hso (fun e => by have := hs _ e; omega), h.sent.same fun j hj => hso.block j (h.sent.lt hj).2 (fun e => by have := hs _ e; have := h3 j hj; omega), row_grown h.r13 hso (fun e => by have := hs _ e; omega), h.r14.set 0 _, h.bel.grown hso h.bel.size (fun k e => by have := hs k e.symm; omega), h.nf, h.foot⟩
theorem QInv.put13 {w W : World} {b b6 b13 base : Nat} {V : Value} {L : List Frm} {x : Nat × List UInt8} {Fc : Nat → Prop} (h : QInv w b b6 b13 base V L x Fc W) (h1 : b < b13) (h2 : b6 < b13) (h3 : ∀ k, V.ownBlock = some k → k < b13) (h4 : w.heap.size ≤ b) (hl : ∀ k, Fc k → k < W.heap.size) (n : Nat) :
    Kept Fc W (W.setCell ⟨b13, 0, none⟩ (.int .i64 n)) ∧ QInv w b b6 b13 base V L (n, x.2) Fc (W.setCell ⟨b13, 0, none⟩ (.int .i64 n)) := by
  have hso := set_grown W b13 0 (.int .i64 n)
  have hs : ∀ k, some k = some b13 → k = b13 := fun k e => Option.some.inj e
  exact ⟨⟨hso.size, fun r hr => hso.block r (hl r hr) (fun e => h.nf.2.2.1 (hs r e ▸ hr))⟩,
    row_grown h.r4 hso (fun e => by have := hs _ e; omega), row_grown h.r6 hso (fun e => by have := hs _ e; omega), h.sent.same fun j hj => hso.block j (h.sent.lt hj).2 (fun e => by have := hs _ e; have := h3 j hj; omega), h.r13.set 0 _, row_grown h.r14 hso (fun e => by have := hs _ e; omega), h.bel.grown hso h.bel.size (fun k e => by have := hs k e.symm; omega), h.nf, h.foot⟩
theorem BkI.add {w W : World} {b4 b6 b7 base : Nat} {V : Value} {l : List Frm} (h : BkI w b4 b6 b7 base V l W) (hl : l.length ≤ 1000) (g : Frm) :
    ∃ a' c' W8, (Builtin.append_ #[48, 48] 48 #[V, .slice (some ⟨W.heap.size, 0, none⟩) 1 1]).run Try.prog (W.alloc (.cells (frC g) 51)) = .ok (.slice a' (l.length + 1) c') W8 ∧
      W8.cell? ⟨b6, 0, none⟩ = some V ∧ W8.frozen? ⟨b6, 0, none⟩ = false ∧ BkI w b4 b6 b7 base (.slice a' (l.length + 1) c') (l ++ [g]) (W8.setCell ⟨b6, 0, none⟩ (.slice a' (l.length + 1) c')) := by
  obtain ⟨l1, l2, l3, l4, l5, l6, l7, l8⟩ := h.low
  obtain ⟨a', c', W8, hrun, hev, hgr, hblk⟩ := run_addFr h.sent (by omega) l8 g 48
  have hal := World.grownBy_alloc W (.cells (frC g) 51) none
  have ho : ∀ k, V.ownBlock = some k → base ≤ k := fun k hk => (h.sent.lt hk).1
  have keep : ∀ {b : Nat} {cs : Array Value} {t : TypeId}, Row W b cs t → b < base → Row W8 b cs t := fun hr hb => row_grown (row_grown hr hal (fun e => by cases e)) hgr (fun e => by have := ho _ e.symm; omega)
  have hso := set_grown W8 b6 0 (.slice a' (l.length + 1) c')
  have k6 := keep h.r6 l4
  have hown : ∀ k, (Value.slice a' (l.length + 1) c').ownBlock = some k → k ≠ b6 := fun k hk e => by
    rcases hblk with h1 | ⟨g1, h1, h2⟩
    · have := ho k (h1 ▸ hk); omega
    · have : k = g1 := Option.some.inj (hk.symm.trans h1); omega
  refine ⟨a', c', W8, hrun, cell_of_row W8 _ 0 _ _ (0, 0) k6, k6.frozen 0, row_grown (keep h.r4 l2) hso (fun e => by have := Option.some.inj e; omega), k6.set 0 _, row_grown (keep h.r7 l5) hso (fun e => by have := Option.some.inj e; omega), hev.same fun j hj => hso.block j (hev.lt hj).2 (fun e => hown j hj (Option.some.inj e)),
    ((h.bel.grown hal h.bel.size (fun k e => by cases e)).grown hgr (by have := h.bel.size; rw [alloc_size]; omega) (fun k e => by have := ho k e; omega)).grown hso (by have := h.bel.size; have := hgr.size; rw [alloc_size] at this; omega) (fun k e => by have := Option.some.inj e; omega), by have := hgr.size; have := hso.size; rw [alloc_size] at *; omega⟩
theorem bytes_le (f : Frm) : (bytesF f).length ≤ f.data.length + 14 := by
  have h1 := lenB_len (finN f.masked) f.data.length
  have h2 : (keyB f).length ≤ 4 := by unfold keyB; split <;> simp
  unfold bytesF headB
  rw [List.length_append, mask_len, List.length_cons, List.length_append, h1]
  split
  · omega
  · split <;> omega
set_option maxRecDepth 100000 in
set_option maxHeartbeats 4000000 in
theorem back16_any {w : World} {zr : Array Value} {RA : World → (Nat → Prop) → Nat → Fst → Prop} (C : FramesI w zr RA)
    (HBy : ∀ (f : Frm) (W : World), Below w.heap.size w W → f.data.length ≤ 100000 → Calls Try.prog 20 #[frV f] W fun e w' => e = .returned (bytesV f) ∧ Below W.heap.size W w')
    (l : List Frm) (V : Value) (bs os : Nat) (m : Bool) (hV : FrsA w V l bs os) :
    Calls Try.prog 8 #[V, .bool m] w fun e w' => e = .returned (.bool true) ∧ Below w.heap.size w w' := by
  obtain ⟨a0, c0, hv⟩ := hV.form
  subst hv
  obtain ⟨N, hN⟩ : ∃ N, N = l.length := ⟨_, rfl⟩
  have hlV := hV.len 3
  rw [← hN] at hlV hV ⊢
  have HV := Lib.hid (And.intro hV hN)
  obtain ⟨b, hb⟩ : ∃ b, b = w.heap.size := ⟨_, rfl⟩
  obtain ⟨W1, hW1⟩ : ∃ W, W = w.alloc (.cells #[.bool false] 4) := ⟨_, rfl⟩
  have H1 : Hid (Below w.heap.size w W1 ∧ Row W1 b #[.bool false] 4) := Lib.hid (by rw [hW1, hb]; exact ⟨(Below.refl _ _).alloc (Nat.le_refl _) _, row_new _ _ _⟩)
  have HA := Lib.hid (awake16_any (C.up H1.out.1))
  rw [hW1] at HA
  clear hV hN
  refine (callsIn_wide (n := 5)).1 (callsIn_of_wp_marks Try.func8 rfl trivial ?_ rfl)
  simp only [Try.ntmps8, List.size_toArray, List.length_cons, List.length_nil, Nat.reduceAdd, Nat.reduceSub, Array.replicate_succ, Array.replicate_zero, List.push_toArray, List.append_toArray, List.nil_append, List.cons_append]
  rw [wpIn_wide]
  go_wp2_with fail
  refine HA.out.mono ?_
  rintro e W2 ⟨rfl, hB⟩
  rw [← hW1] at hB
  rw [← hb]
  have H2 : Hid (Below w.heap.size w W2 ∧ Row W2 b #[.bool false] 4 ∧ b = w.heap.size) := Lib.hid ⟨H1.out.1.trans (hB.mono H1.out.1.size), H1.out.2.below hB H1.out.2.lt, hb⟩
  clear hB hW1 H1 HA hb
  by_cases hbig : 30 < N
  · have g1 : decide ((30 : Int) < (N : Int)) = true := decide_eq_true (by omega)
    have g1' : decide ((N : Int) > 30) = true := decide_eq_true (by omega)
    have c2 := cell_of_row W2 _ 0 _ 4 (0, 0) H2.out.2.1
    have z2 := H2.out.2.1.frozen 0
    go_wp2
    exact fback_early (H2.out.2.1.set 0 _) rfl (H2.out.1.setCell (p := ⟨b, 0, none⟩) (by show _ ≤ b; rw [H2.out.2.2]; exact Nat.le_refl _) _) rfl
  have g1 : decide ((30 : Int) < (N : Int)) = false := decide_eq_false (by omega)
  have g1' : decide ((N : Int) > 30) = false := decide_eq_false (by omega)
  have HNb : Hid (N ≤ 30) := Lib.hid (by omega)
  clear hbig
  obtain ⟨W3, hW3⟩ : ∃ W, W = (W2.alloc (.cells #[.slice none 0 0] 48)).alloc (.cells opsC 3) := ⟨_, rfl⟩
  obtain ⟨b6, hb6⟩ : ∃ y, y = W2.heap.size := ⟨_, rfl⟩
  have H3 : Hid (BkI w b b6 (b6 + 1) W3.heap.size (.slice none 0 0) [] W3) := Lib.hid (by
    have hs3 : W3.heap.size = b6 + 2 := by rw [hW3, hb6]; simp
    have h7 := row_new (W2.alloc (.cells #[.slice none 0 0] 48)) opsC 3
    rw [alloc_size, ← hW3, ← hb6] at h7
    have hal : Below W2.heap.size W2 W3 := by rw [hW3]; exact ((Below.refl _ _).alloc (Nat.le_refl _) _).alloc (by simp) _
    have hbl := H2.out.2.1.lt
    have := H2.out.1.size
    exact ⟨H2.out.2.1.below hal hbl, by rw [hW3, hb6]; exact (row_new W2 _ _).alloc _, h7, frr_nil _ _, H2.out.1.trans (hal.mono H2.out.1.size), by have := H2.out.2.2; omega⟩)
  unfold opsC at hW3
  go_wp2
  rw [← hW3, ← hb6]
  have HB6 := Lib.hid hb6
  clear hW3 hb6
  obtain ⟨base, hbase⟩ : ∃ y, y = W3.heap.size := ⟨_, rfl⟩
  rw [← hbase] at H3
  clear hbase
  go_loopw [5, 8] (fun av iv wr => ∃ (i : Nat) (A : List UInt8) (Vs : Value), i ≤ N ∧ av = S A ∧ iv = .int .i64 (i : Int) ∧ Hid (A = ((l.take i).map (normF m)).flatMap bytesF ∧ A.length ≤ 20100 ∧ (∀ f ∈ l.take i, f.data.length ≤ 10000) ∧ BkI w b b6 (b6 + 1) base Vs ((l.take i).map (normF m)) wr)) (fun _ iv _ => N - (intOf iv).toNat)
  case atStart => exact ⟨0, [], _, Nat.zero_le _, rfl, rfl, Lib.hid ⟨rfl, by simp, fun f hf => by simp at hf, H3.out⟩⟩
  case round =>
    obtain ⟨i, A, Vs, hi, rfl, rfl, HI⟩ := hrel
    by_cases hlt : i < N
    · have g2 : decide ((i : Int) < (N : Int)) = true := decide_eq_true (by omega)
      have hil : i < l.length := by have := HV.out.2; omega
      obtain ⟨f, hf⟩ : ∃ f, l[i]? = some f := ⟨l[i]'hil, List.getElem?_eq_getElem _⟩
      have hVr := HV.out.1.below HI.out.2.2.2.bel
      have hix := hVr.index i hil
      have hce := hVr.cell i f hf
      obtain ⟨oi, hoi⟩ : ∃ y, y = os + i * 9 := ⟨_, rfl⟩
      rw [← hoi] at hix hce
      have HF := Lib.hid hf
      obtain ⟨fin, rsv, op, mk, ⟨k0, k1, k2, k3⟩, data⟩ := f
      have y0 : wr.cell? ⟨bs, oi, none⟩ = some (.bool fin) := hce 0 _ rfl
      have y1 : wr.cell? ⟨bs, oi + 1, none⟩ = some (.int .i64 rsv) := hce 1 _ rfl
      have y2 : wr.cell? ⟨bs, oi + 2, none⟩ = some (.int .i64 op) := hce 2 _ rfl
      have y3 : wr.cell? ⟨bs, oi + 3, none⟩ = some (.bool mk) := hce 3 _ rfl
      have y4 : wr.cell? ⟨bs, oi + 4, none⟩ = some (B k0) := hce 4 _ rfl
      have y5 : wr.cell? ⟨bs, oi + 5, none⟩ = some (B k1) := hce 5 _ rfl
      have y6 : wr.cell? ⟨bs, oi + 6, none⟩ = some (B k2) := hce 6 _ rfl
      have y7 : wr.cell? ⟨bs, oi + 7, none⟩ = some (B k3) := hce 7 _ rfl
      have y8 : wr.cell? ⟨bs, oi + 8, none⟩ = some (S data) := hce 8 _ rfl
      have hld := run_len_S (P := Try.prog) Try.underlying9 3 data
      have hlA := run_len_S (P := Try.prog) Try.underlying9 3 A
      obtain ⟨DL, hDL⟩ : ∃ y, y = data.length := ⟨_, rfl⟩
      obtain ⟨AL, hAL⟩ : ∃ y, y = A.length := ⟨_, rfl⟩
      rw [← hDL] at hld
      rw [← hAL] at hlA
      have HL := Lib.hid (And.intro hDL hAL)
      clear hDL hAL hoi hce hVr hf hil
      obtain ⟨W5, hW5⟩ : ∃ W, W = wr.alloc (.cells #[.bool fin, .int .i64 rsv, .int .i64 op, .bool mk, B k0, B k1, B k2, B k3, S data] 51) := ⟨_, rfl⟩
      obtain ⟨b9, hb9⟩ : ∃ y, y = wr.heap.size := ⟨_, rfl⟩
      have hal : Below wr.heap.size wr W5 := by rw [hW5]; exact (Below.refl _ _).alloc (Nat.le_refl _) _
      have H5 : Hid (BkI w b b6 (b6 + 1) base Vs ((l.take i).map (normF m)) W5 ∧ Row W5 b9 #[.bool fin, .int .i64 rsv, .int .i64 op, .bool mk, B k0, B k1, B k2, B k3, S data] 51 ∧ base ≤ b9 ∧ W5.heap.size = b9 + 1) := Lib.hid ⟨HI.out.2.2.2.below hal, by rw [hW5, hb9]; exact row_new _ _ _, by rw [hb9]; exact HI.out.2.2.2.low.2.2.2.2.2.2.2, by rw [hW5, hb9, alloc_size]⟩
      have cb := cell_of_row W5 _ 0 _ 4 (0, 0) H5.out.1.r4
      have zb := H5.out.1.r4.frozen 0
      have x0 : W5.cell? ⟨b9, 0, none⟩ = some (.bool fin) := cell_of_row W5 _ 0 _ _ (0, 0) H5.out.2.1
      have z0 := H5.out.2.1.frozen 0
      have x1 : W5.cell? ⟨b9, 1, none⟩ = some (.int .i64 rsv) := cell_of_row W5 _ 1 _ _ (0, 0) H5.out.2.1
      have z1 := H5.out.2.1.frozen 1
      have x2 : W5.cell? ⟨b9, 2, none⟩ = some (.int .i64 op) := cell_of_row W5 _ 2 _ _ (0, 0) H5.out.2.1
      have z2 := H5.out.2.1.frozen 2
      have x3 : W5.cell? ⟨b9, 3, none⟩ = some (.bool mk) := cell_of_row W5 _ 3 _ _ (0, 0) H5.out.2.1
      have z3 := H5.out.2.1.frozen 3
      have x4 : W5.cell? ⟨b9, 4, none⟩ = some (B k0) := cell_of_row W5 _ 4 _ _ (0, 0) H5.out.2.1
      have z4 := H5.out.2.1.frozen 4
      have x5 : W5.cell? ⟨b9, 5, none⟩ = some (B k1) := cell_of_row W5 _ 5 _ _ (0, 0) H5.out.2.1
      have z5 := H5.out.2.1.frozen 5
      have x6 : W5.cell? ⟨b9, 6, none⟩ = some (B k2) := cell_of_row W5 _ 6 _ _ (0, 0) H5.out.2.1
      have z6 := H5.out.2.1.frozen 6
      have x7 : W5.cell? ⟨b9, 7, none⟩ = some (B k3) := cell_of_row W5 _ 7 _ _ (0, 0) H5.out.2.1
      have z7 := H5.out.2.1.frozen 7
      have x8 : W5.cell? ⟨b9, 8, none⟩ = some (S data) := cell_of_row W5 _ 8 _ _ (0, 0) H5.out.2.1
      have z8 := H5.out.2.1.frozen 8
      clear hal
      by_cases hd : 10000 < DL
      · have q1 : decide ((10000 : Int) < (DL : Int)) = true := decide_eq_true (by omega)
        have q1' : decide ((DL : Int) > 10000) = true := decide_eq_true (by omega)
        rw [hW5] at cb zb
        clear x0 x1 x2 x3 x4 x5 x6 x7 x8 z0 z1 z2 z3 z4 z5 z6 z7 z8 hb9
        go_wp2
        rw [← hW5]
        exact fback_early (H5.out.1.r4.set 0 _) rfl (H5.out.1.bel.setCell (p := ⟨b, 0, none⟩) H5.out.1.low.1 _) rfl
      have q1 : decide ((10000 : Int) < (DL : Int)) = false := decide_eq_false (by omega)
      have q1' : decide ((DL : Int) > 10000) = false := decide_eq_false (by omega)
      by_cases hA : 10000 < AL
      · have q2 : decide ((10000 : Int) < (AL : Int)) = true := decide_eq_true (by omega)
        have q2' : decide ((AL : Int) > 10000) = true := decide_eq_true (by omega)
        rw [hW5] at cb zb
        clear x0 x1 x2 x3 x4 x5 x6 x7 x8 z0 z1 z2 z3 z4 z5 z6 z7 z8 hb9
        go_wp2
        rw [← hW5]
        exact fback_early (H5.out.1.r4.set 0 _) rfl (H5.out.1.bel.setCell (p := ⟨b, 0, none⟩) H5.out.1.low.1 _) rfl
      have q2 : decide ((10000 : Int) < (AL : Int)) = false := decide_eq_false (by omega)
      have q2' : decide ((AL : Int) > 10000) = false := decide_eq_false (by omega)
      rw [hW5] at x0 x1 x2 x3 x4 x5 x6 x7 x8 z0 z1 z2 z3 z4 z5 z6 z7 z8
      rw [hb9] at x0 x1 x2 x3 x4 x5 x6 x7 x8 z0 z1 z2 z3 z4 z5 z6 z7 z8
      have HB9 := Lib.hid hb9
      have HDA : Hid (DL ≤ 10000 ∧ AL ≤ 10000) := Lib.hid ⟨by omega, by omega⟩
      have hw1 : IntKind.i64.wrap ((i : Int) + 1) = (i : Int) + 1 := by have := HNb.out; rw [IntKind.wrap_i64]; omega
      have v0 : ∀ cs, (wr.alloc (.cells cs 51)).cell? ⟨b6 + 1, 0, none⟩ = some (.int .i64 0) := fun cs => cell_of_row _ _ 0 _ _ (0, 0) (HI.out.2.2.2.r7.alloc _)
      have v1 : ∀ cs, (wr.alloc (.cells cs 51)).cell? ⟨b6 + 1, 1, none⟩ = some (.int .i64 1) := fun cs => cell_of_row _ _ 1 _ _ (0, 0) (HI.out.2.2.2.r7.alloc _)
      have v2 : ∀ cs, (wr.alloc (.cells cs 51)).cell? ⟨b6 + 1, 2, none⟩ = some (.int .i64 2) := fun cs => cell_of_row _ _ 2 _ _ (0, 0) (HI.out.2.2.2.r7.alloc _)
      have v3 : ∀ cs, (wr.alloc (.cells cs 51)).cell? ⟨b6 + 1, 3, none⟩ = some (.int .i64 8) := fun cs => cell_of_row _ _ 3 _ _ (0, 0) (HI.out.2.2.2.r7.alloc _)
      have v4 : ∀ cs, (wr.alloc (.cells cs 51)).cell? ⟨b6 + 1, 4, none⟩ = some (.int .i64 9) := fun cs => cell_of_row _ _ 4 _ _ (0, 0) (HI.out.2.2.2.r7.alloc _)
      have v5 : ∀ cs, (wr.alloc (.cells cs 51)).cell? ⟨b6 + 1, 5, none⟩ = some (.int .i64 10) := fun cs => cell_of_row _ _ 5 _ _ (0, 0) (HI.out.2.2.2.r7.alloc _)
      obtain ⟨a6, c6, hvs⟩ : ∃ a c, Vs = .slice a i c := by
        obtain ⟨a, c, h, -⟩ := HI.out.2.2.2.sent.form
        rw [List.length_map, List.length_take, Nat.min_eq_left (by have := HV.out.2; omega)] at h
        exact ⟨a, c, h⟩
      subst hvs
      have HVS : Hid (((l.take i).map (normF m)).length = i) := Lib.hid (by rw [List.length_map, List.length_take, Nat.min_eq_left (by have := HV.out.2; omega)])
      clear cb zb hW5 hb9
      cases m with
      | true =>
        have hop : op < 0 ∨ op = 0 ∨ op = 1 ∨ op = 2 ∨ op = 3 ∨ op = 4 ∨ op = 5 ∨ 5 < op := by omega
        rcases hop with hop | hop | hop | hop | hop | hop | hop | hop
        · have hop1 : ¬ (0 ≤ op) := by omega
          have hop2 : decide (0 ≤ op) = false := decide_eq_false hop1
          have HOP : Hid (opN op = 0) := Lib.hid (opN_low op (by omega))
          have HG : Hid ((⟨fin, 0, 0, true, ⟨k0, k1, k2, k3⟩, data⟩ : Frm) = normF true ⟨fin, rsv, op, mk, ⟨k0, k1, k2, k3⟩, data⟩) := Lib.hid (by unfold normF; rw [HOP.out]; simp)
          obtain ⟨W6, hW6⟩ : ∃ W, W = wr.alloc (.cells #[.bool fin, .int .i64 0, .int .i64 0, .bool true, B k0, B k1, B k2, B k3, S (data)] 51) := ⟨_, rfl⟩
          have H6 : Hid (BkI w b b6 (b6 + 1) base (.slice a6 i c6) ((l.take i).map (normF true)) W6 ∧ Row W6 b9 #[.bool fin, .int .i64 0, .int .i64 0, .bool true, B k0, B k1, B k2, B k3, S (data)] 51) := Lib.hid (by
            have hal : Below wr.heap.size wr W6 := by rw [hW6]; exact (Below.refl _ _).alloc (Nat.le_refl _) _
            exact ⟨HI.out.2.2.2.below hal, by rw [hW6, HB9.out]; exact row_new _ _ _⟩)
          have HC := Lib.hid (HBy ⟨fin, 0, 0, true, ⟨k0, k1, k2, k3⟩, data⟩ W6 H6.out.1.bel (by have := HDA.out; have := HL.out.1; simp; omega))
          obtain ⟨Bt, hBt⟩ : ∃ y, y = bytesF ⟨fin, 0, 0, true, ⟨k0, k1, k2, k3⟩, data⟩ := ⟨_, rfl⟩
          have hv : bytesV ⟨fin, 0, 0, true, ⟨k0, k1, k2, k3⟩, data⟩ = .tuple #[S Bt, .int .i64 0] := by
            unfold bytesV
            rw [show okFr ⟨fin, 0, 0, true, ⟨k0, k1, k2, k3⟩, data⟩ = true from by rw [HG.out]; exact norm_ok _ _, if_pos rfl, if_pos rfl, hBt]
          rw [hv] at HC
          have HBT : Hid (Bt = bytesF ⟨fin, 0, 0, true, ⟨k0, k1, k2, k3⟩, data⟩ ∧ Bt.length ≤ 10014) := Lib.hid ⟨hBt, by rw [hBt]; have h := bytes_le ⟨fin, 0, 0, true, ⟨k0, k1, k2, k3⟩, data⟩; have := HDA.out; have := HL.out.1; simp at h; omega⟩
          clear hBt hv
          unfold frV frC at HC
          rw [hW6] at HC
          dsimp only at HC
          go_wp2_with fail
          refine HC.out.mono ?_
          rintro e W7 ⟨rfl, hB⟩
          rw [← hW6] at hB
          rw [← HB9.out]
          have H7 := Lib.hid (H6.out.1.below hB)
          have hr7 := H6.out.2.below hB H6.out.2.lt
          have t6 := cell_of_row W7 _ 0 _ _ (0, 0) H7.out.r6
          have e0 := cell_of_row W7 b9 0 _ _ (0, 0) hr7
          have e1 := cell_of_row W7 b9 1 _ _ (0, 0) hr7
          have e2 := cell_of_row W7 b9 2 _ _ (0, 0) hr7
          have e3 := cell_of_row W7 b9 3 _ _ (0, 0) hr7
          have e4 := cell_of_row W7 b9 4 _ _ (0, 0) hr7
          have e5 := cell_of_row W7 b9 5 _ _ (0, 0) hr7
          have e6 := cell_of_row W7 b9 6 _ _ (0, 0) hr7
          have e7 := cell_of_row W7 b9 7 _ _ (0, 0) hr7
          have e8 := cell_of_row W7 b9 8 _ _ (0, 0) hr7
          obtain ⟨a8, c8, W8, hrun, t8, u8, hb8⟩ := H7.out.add (by rw [HVS.out]; have := HNb.out; omega) ⟨fin, 0, 0, true, ⟨k0, k1, k2, k3⟩, data⟩
          rw [HVS.out] at hrun hb8
          unfold frC at hrun
          dsimp only at hrun
          have H8 := Lib.hid hb8
          have hadd : binOp .add 9 (S A) (S Bt) = pure (S (A ++ Bt)) := S_add 9 A Bt (by have := HDA.out; have := HBT.out; have := HL.out.2; omega)
          clear hB HC hW6 hb8 hr7 H6
          go_wp2_with (at_builtin; refine wpList_append_by rfl 48 48 (.tmp 79) (.tmp 81) rfl (.slice a6 i c6) (.slice (some ⟨W7.heap.size, 0, none⟩) 1 1) rfl rfl (.slice a8 (i + 1) c8) W8 hrun ?_)
          have htk : l.take (i + 1) = l.take i ++ [⟨fin, rsv, op, mk, ⟨k0, k1, k2, k3⟩, data⟩] := by rw [List.take_add_one, HF.out]; rfl
          have h8 := H8.out
          rw [HG.out] at h8
          have hbt := HBT.out.1
          rw [HG.out] at hbt
          exact ⟨⟨i + 1, A ++ Bt, .slice a8 (i + 1) c8, by omega, rfl, by go_num, Lib.hid ⟨by rw [htk, List.map_append, List.flatMap_append, ← HI.out.1, hbt]; simp, by rw [List.length_append]; have := HDA.out; have := HBT.out.2; have := HL.out.2; omega, fun f hf => by
            rw [htk] at hf
            rcases List.mem_append.1 hf with h | h
            · exact HI.out.2.2.1 f h
            · rw [List.mem_singleton.1 h]; show data.length ≤ 10000; have := HDA.out; have := HL.out.1; omega, by rw [htk, List.map_append]; exact h8⟩⟩, by simp [intOf]; omega⟩
        · obtain rfl := hop
          have HG : Hid ((⟨fin, 0, 0, true, ⟨k0, k1, k2, k3⟩, data⟩ : Frm) = normF true ⟨fin, rsv, 0, mk, ⟨k0, k1, k2, k3⟩, data⟩) := Lib.hid (by unfold normF; rw [(show opN 0 = 0 from by decide)]; simp)
          obtain ⟨W6, hW6⟩ : ∃ W, W = wr.alloc (.cells #[.bool fin, .int .i64 0, .int .i64 0, .bool true, B k0, B k1, B k2, B k3, S (data)] 51) := ⟨_, rfl⟩
          have H6 : Hid (BkI w b b6 (b6 + 1) base (.slice a6 i c6) ((l.take i).map (normF true)) W6 ∧ Row W6 b9 #[.bool fin, .int .i64 0, .int .i64 0, .bool true, B k0, B k1, B k2, B k3, S (data)] 51) := Lib.hid (by
            have hal : Below wr.heap.size wr W6 := by rw [hW6]; exact (Below.refl _ _).alloc (Nat.le_refl _) _
            exact ⟨HI.out.2.2.2.below hal, by rw [hW6, HB9.out]; exact row_new _ _ _⟩)
          have HC := Lib.hid (HBy ⟨fin, 0, 0, true, ⟨k0, k1, k2, k3⟩, data⟩ W6 H6.out.1.bel (by have := HDA.out; have := HL.out.1; simp; omega))
          obtain ⟨Bt, hBt⟩ : ∃ y, y = bytesF ⟨fin, 0, 0, true, ⟨k0, k1, k2, k3⟩, data⟩ := ⟨_, rfl⟩
          have hv : bytesV ⟨fin, 0, 0, true, ⟨k0, k1, k2, k3⟩, data⟩ = .tuple #[S Bt, .int .i64 0] := by
            unfold bytesV
            rw [show okFr ⟨fin, 0, 0, true, ⟨k0, k1, k2, k3⟩, data⟩ = true from by rw [HG.out]; exact norm_ok _ _, if_pos rfl, if_pos rfl, hBt]
          rw [hv] at HC
          have HBT : Hid (Bt = bytesF ⟨fin, 0, 0, true, ⟨k0, k1, k2, k3⟩, data⟩ ∧ Bt.length ≤ 10014) := Lib.hid ⟨hBt, by rw [hBt]; have h := bytes_le ⟨fin, 0, 0, true, ⟨k0, k1, k2, k3⟩, data⟩; have := HDA.out; have := HL.out.1; simp at h; omega⟩
          clear hBt hv
          unfold frV frC at HC
          rw [hW6] at HC
          dsimp only at HC
          go_wp2_with fail
          refine HC.out.mono ?_
          rintro e W7 ⟨rfl, hB⟩
          rw [← hW6] at hB
          rw [← HB9.out]
          have H7 := Lib.hid (H6.out.1.below hB)
          have hr7 := H6.out.2.below hB H6.out.2.lt
          have t6 := cell_of_row W7 _ 0 _ _ (0, 0) H7.out.r6
          have e0 := cell_of_row W7 b9 0 _ _ (0, 0) hr7
          have e1 := cell_of_row W7 b9 1 _ _ (0, 0) hr7
          have e2 := cell_of_row W7 b9 2 _ _ (0, 0) hr7
          have e3 := cell_of_row W7 b9 3 _ _ (0, 0) hr7
          have e4 := cell_of_row W7 b9 4 _ _ (0, 0) hr7
          have e5 := cell_of_row W7 b9 5 _ _ (0, 0) hr7
          have e6 := cell_of_row W7 b9 6 _ _ (0, 0) hr7
          have e7 := cell_of_row W7 b9 7 _ _ (0, 0) hr7
          have e8 := cell_of_row W7 b9 8 _ _ (0, 0) hr7
          obtain ⟨a8, c8, W8, hrun, t8, u8, hb8⟩ := H7.out.add (by rw [HVS.out]; have := HNb.out; omega) ⟨fin, 0, 0, true, ⟨k0, k1, k2, k3⟩, data⟩
          rw [HVS.out] at hrun hb8
          unfold frC at hrun
          dsimp only at hrun
          have H8 := Lib.hid hb8
          have hadd : binOp .add 9 (S A) (S Bt) = pure (S (A ++ Bt)) := S_add 9 A Bt (by have := HDA.out; have := HBT.out; have := HL.out.2; omega)
          clear hB HC hW6 hb8 hr7 H6
          go_wp2_with (at_builtin; refine wpList_append_by rfl 48 48 (.tmp 79) (.tmp 81) rfl (.slice a6 i c6) (.slice (some ⟨W7.heap.size, 0, none⟩) 1 1) rfl rfl (.slice a8 (i + 1) c8) W8 hrun ?_)
          have htk : l.take (i + 1) = l.take i ++ [⟨fin, rsv, 0, mk, ⟨k0, k1, k2, k3⟩, data⟩] := by rw [List.take_add_one, HF.out]; rfl
          have h8 := H8.out
          rw [HG.out] at h8
          have hbt := HBT.out.1
          rw [HG.out] at hbt
          exact ⟨⟨i + 1, A ++ Bt, .slice a8 (i + 1) c8, by omega, rfl, by go_num, Lib.hid ⟨by rw [htk, List.map_append, List.flatMap_append, ← HI.out.1, hbt]; simp, by rw [List.length_append]; have := HDA.out; have := HBT.out.2; have := HL.out.2; omega, fun f hf => by
            rw [htk] at hf
            rcases List.mem_append.1 hf with h | h
            · exact HI.out.2.2.1 f h
            · rw [List.mem_singleton.1 h]; show data.length ≤ 10000; have := HDA.out; have := HL.out.1; omega, by rw [htk, List.map_append]; exact h8⟩⟩, by simp [intOf]; omega⟩
        · obtain rfl := hop
          have HG : Hid ((⟨fin, 0, 1, true, ⟨k0, k1, k2, k3⟩, data⟩ : Frm) = normF true ⟨fin, rsv, 1, mk, ⟨k0, k1, k2, k3⟩, data⟩) := Lib.hid (by unfold normF; rw [(show opN 1 = 1 from by decide)]; simp)
          obtain ⟨W6, hW6⟩ : ∃ W, W = wr.alloc (.cells #[.bool fin, .int .i64 0, .int .i64 1, .bool true, B k0, B k1, B k2, B k3, S (data)] 51) := ⟨_, rfl⟩
          have H6 : Hid (BkI w b b6 (b6 + 1) base (.slice a6 i c6) ((l.take i).map (normF true)) W6 ∧ Row W6 b9 #[.bool fin, .int .i64 0, .int .i64 1, .bool true, B k0, B k1, B k2, B k3, S (data)] 51) := Lib.hid (by
            have hal : Below wr.heap.size wr W6 := by rw [hW6]; exact (Below.refl _ _).alloc (Nat.le_refl _) _
            exact ⟨HI.out.2.2.2.below hal, by rw [hW6, HB9.out]; exact row_new _ _ _⟩)
          have HC := Lib.hid (HBy ⟨fin, 0, 1, true, ⟨k0, k1, k2, k3⟩, data⟩ W6 H6.out.1.bel (by have := HDA.out; have := HL.out.1; simp; omega))
          obtain ⟨Bt, hBt⟩ : ∃ y, y = bytesF ⟨fin, 0, 1, true, ⟨k0, k1, k2, k3⟩, data⟩ := ⟨_, rfl⟩
          have hv : bytesV ⟨fin, 0, 1, true, ⟨k0, k1, k2, k3⟩, data⟩ = .tuple #[S Bt, .int .i64 0] := by
            unfold bytesV
            rw [show okFr ⟨fin, 0, 1, true, ⟨k0, k1, k2, k3⟩, data⟩ = true from by rw [HG.out]; exact norm_ok _ _, if_pos rfl, if_pos rfl, hBt]
          rw [hv] at HC
          have HBT : Hid (Bt = bytesF ⟨fin, 0, 1, true, ⟨k0, k1, k2, k3⟩, data⟩ ∧ Bt.length ≤ 10014) := Lib.hid ⟨hBt, by rw [hBt]; have h := bytes_le ⟨fin, 0, 1, true, ⟨k0, k1, k2, k3⟩, data⟩; have := HDA.out; have := HL.out.1; simp at h; omega⟩
          clear hBt hv
          unfold frV frC at HC
          rw [hW6] at HC
          dsimp only at HC
          go_wp2_with fail
          refine HC.out.mono ?_
          rintro e W7 ⟨rfl, hB⟩
          rw [← hW6] at hB
          rw [← HB9.out]
          have H7 := Lib.hid (H6.out.1.below hB)
          have hr7 := H6.out.2.below hB H6.out.2.lt
          have t6 := cell_of_row W7 _ 0 _ _ (0, 0) H7.out.r6
          have e0 := cell_of_row W7 b9 0 _ _ (0, 0) hr7
          have e1 := cell_of_row W7 b9 1 _ _ (0, 0) hr7
          have e2 := cell_of_row W7 b9 2 _ _ (0, 0) hr7
          have e3 := cell_of_row W7 b9 3 _ _ (0, 0) hr7
          have e4 := cell_of_row W7 b9 4 _ _ (0, 0) hr7
          have e5 := cell_of_row W7 b9 5 _ _ (0, 0) hr7
          have e6 := cell_of_row W7 b9 6 _ _ (0, 0) hr7
          have e7 := cell_of_row W7 b9 7 _ _ (0, 0) hr7
          have e8 := cell_of_row W7 b9 8 _ _ (0, 0) hr7
          obtain ⟨a8, c8, W8, hrun, t8, u8, hb8⟩ := H7.out.add (by rw [HVS.out]; have := HNb.out; omega) ⟨fin, 0, 1, true, ⟨k0, k1, k2, k3⟩, data⟩
          rw [HVS.out] at hrun hb8
          unfold frC at hrun
          dsimp only at hrun
          have H8 := Lib.hid hb8
          have hadd : binOp .add 9 (S A) (S Bt) = pure (S (A ++ Bt)) := S_add 9 A Bt (by have := HDA.out; have := HBT.out; have := HL.out.2; omega)
          clear hB HC hW6 hb8 hr7 H6
          go_wp2_with (at_builtin; refine wpList_append_by rfl 48 48 (.tmp 79) (.tmp 81) rfl (.slice a6 i c6) (.slice (some ⟨W7.heap.size, 0, none⟩) 1 1) rfl rfl (.slice a8 (i + 1) c8) W8 hrun ?_)
          have htk : l.take (i + 1) = l.take i ++ [⟨fin, rsv, 1, mk, ⟨k0, k1, k2, k3⟩, data⟩] := by rw [List.take_add_one, HF.out]; rfl
          have h8 := H8.out
          rw [HG.out] at h8
          have hbt := HBT.out.1
          rw [HG.out] at hbt
          exact ⟨⟨i + 1, A ++ Bt, .slice a8 (i + 1) c8, by omega, rfl, by go_num, Lib.hid ⟨by rw [htk, List.map_append, List.flatMap_append, ← HI.out.1, hbt]; simp, by rw [List.length_append]; have := HDA.out; have := HBT.out.2; have := HL.out.2; omega, fun f hf => by
            rw [htk] at hf
            rcases List.mem_append.1 hf with h | h
            · exact HI.out.2.2.1 f h
            · rw [List.mem_singleton.1 h]; show data.length ≤ 10000; have := HDA.out; have := HL.out.1; omega, by rw [htk, List.map_append]; exact h8⟩⟩, by simp [intOf]; omega⟩
        · obtain rfl := hop
          have HG : Hid ((⟨fin, 0, 2, true, ⟨k0, k1, k2, k3⟩, data⟩ : Frm) = normF true ⟨fin, rsv, 2, mk, ⟨k0, k1, k2, k3⟩, data⟩) := Lib.hid (by unfold normF; rw [(show opN 2 = 2 from by decide)]; simp)
          obtain ⟨W6, hW6⟩ : ∃ W, W = wr.alloc (.cells #[.bool fin, .int .i64 0, .int .i64 2, .bool true, B k0, B k1, B k2, B k3, S (data)] 51) := ⟨_, rfl⟩
          have H6 : Hid (BkI w b b6 (b6 + 1) base (.slice a6 i c6) ((l.take i).map (normF true)) W6 ∧ Row W6 b9 #[.bool fin, .int .i64 0, .int .i64 2, .bool true, B k0, B k1, B k2, B k3, S (data)] 51) := Lib.hid (by
            have hal : Below wr.heap.size wr W6 := by rw [hW6]; exact (Below.refl _ _).alloc (Nat.le_refl _) _
            exact ⟨HI.out.2.2.2.below hal, by rw [hW6, HB9.out]; exact row_new _ _ _⟩)
          have HC := Lib.hid (HBy ⟨fin, 0, 2, true, ⟨k0, k1, k2, k3⟩, data⟩ W6 H6.out.1.bel (by have := HDA.out; have := HL.out.1; simp; omega))
          obtain ⟨Bt, hBt⟩ : ∃ y, y = bytesF ⟨fin, 0, 2, true, ⟨k0, k1, k2, k3⟩, data⟩ := ⟨_, rfl⟩
          have hv : bytesV ⟨fin, 0, 2, true, ⟨k0, k1, k2, k3⟩, data⟩ = .tuple #[S Bt, .int .i64 0] := by
            unfold bytesV
            rw [show okFr ⟨fin, 0, 2, true, ⟨k0, k1, k2, k3⟩, data⟩ = true from by rw [HG.out]; exact norm_ok _ _, if_pos rfl, if_pos rfl, hBt]
          rw [hv] at HC
          have HBT : Hid (Bt = bytesF ⟨fin, 0, 2, true, ⟨k0, k1, k2, k3⟩, data⟩ ∧ Bt.length ≤ 10014) := Lib.hid ⟨hBt, by rw [hBt]; have h := bytes_le ⟨fin, 0, 2, true, ⟨k0, k1, k2, k3⟩, data⟩; have := HDA.out; have := HL.out.1; simp at h; omega⟩
          clear hBt hv
          unfold frV frC at HC
          rw [hW6] at HC
          dsimp only at HC
          go_wp2_with fail
          refine HC.out.mono ?_
          rintro e W7 ⟨rfl, hB⟩
          rw [← hW6] at hB
          rw [← HB9.out]
          have H7 := Lib.hid (H6.out.1.below hB)
          have hr7 := H6.out.2.below hB H6.out.2.lt
          have t6 := cell_of_row W7 _ 0 _ _ (0, 0) H7.out.r6
          have e0 := cell_of_row W7 b9 0 _ _ (0, 0) hr7
          have e1 := cell_of_row W7 b9 1 _ _ (0, 0) hr7
          have e2 := cell_of_row W7 b9 2 _ _ (0, 0) hr7
          have e3 := cell_of_row W7 b9 3 _ _ (0, 0) hr7
          have e4 := cell_of_row W7 b9 4 _ _ (0, 0) hr7
          have e5 := cell_of_row W7 b9 5 _ _ (0, 0) hr7
          have e6 := cell_of_row W7 b9 6 _ _ (0, 0) hr7
          have e7 := cell_of_row W7 b9 7 _ _ (0, 0) hr7
          have e8 := cell_of_row W7 b9 8 _ _ (0, 0) hr7
          obtain ⟨a8, c8, W8, hrun, t8, u8, hb8⟩ := H7.out.add (by rw [HVS.out]; have := HNb.out; omega) ⟨fin, 0, 2, true, ⟨k0, k1, k2, k3⟩, data⟩
          rw [HVS.out] at hrun hb8
          unfold frC at hrun
          dsimp only at hrun
          have H8 := Lib.hid hb8
          have hadd : binOp .add 9 (S A) (S Bt) = pure (S (A ++ Bt)) := S_add 9 A Bt (by have := HDA.out; have := HBT.out; have := HL.out.2; omega)
          clear hB HC hW6 hb8 hr7 H6
          go_wp2_with (at_builtin; refine wpList_append_by rfl 48 48 (.tmp 79) (.tmp 81) rfl (.slice a6 i c6) (.slice (some ⟨W7.heap.size, 0, none⟩) 1 1) rfl rfl (.slice a8 (i + 1) c8) W8 hrun ?_)
          have htk : l.take (i + 1) = l.take i ++ [⟨fin, rsv, 2, mk, ⟨k0, k1, k2, k3⟩, data⟩] := by rw [List.take_add_one, HF.out]; rfl
          have h8 := H8.out
          rw [HG.out] at h8
          have hbt := HBT.out.1
          rw [HG.out] at hbt
          exact ⟨⟨i + 1, A ++ Bt, .slice a8 (i + 1) c8, by omega, rfl, by go_num, Lib.hid ⟨by rw [htk, List.map_append, List.flatMap_append, ← HI.out.1, hbt]; simp, by rw [List.length_append]; have := HDA.out; have := HBT.out.2; have := HL.out.2; omega, fun f hf => by
            rw [htk] at hf
            rcases List.mem_append.1 hf with h | h
            · exact HI.out.2.2.1 f h
            · rw [List.mem_singleton.1 h]; show data.length ≤ 10000; have := HDA.out; have := HL.out.1; omega, by rw [htk, List.map_append]; exact h8⟩⟩, by simp [intOf]; omega⟩
        · obtain rfl := hop
          by_cases h125 : DL ≤ 125
          · have hdt : data.take 125 = data := List.take_of_length_le (by have := HL.out.1; omega)
            have HDT := Lib.hid hdt
            have hsl : ∀ W, (Instr.slice 9 (S data) none (some (.int .i64 (DL : Int))) none).run Try.prog W = .ok (S data) W := fun W => by
              have h := slice_take (P := Try.prog) Try.underlying9 data DL (by rw [HL.out.1]; exact Nat.le_refl _) W
              rw [List.take_of_length_le (by rw [HL.out.1]; exact Nat.le_refl _)] at h
              exact h
            have g5 : decide ((125 : Int) < (DL : Int)) = false := decide_eq_false (by omega)
            have g6 : decide ((DL : Int) ≤ 125) = true := decide_eq_true (by omega)
            clear hdt
            have HG : Hid ((⟨true, 0, 8, true, ⟨k0, k1, k2, k3⟩, data⟩ : Frm) = normF true ⟨fin, rsv, 3, mk, ⟨k0, k1, k2, k3⟩, data⟩) := Lib.hid (by unfold normF; rw [(show opN 3 = 8 from by decide)]; simp [HDT.out])
            obtain ⟨W6, hW6⟩ : ∃ W, W = wr.alloc (.cells #[.bool true, .int .i64 0, .int .i64 8, .bool true, B k0, B k1, B k2, B k3, S (data)] 51) := ⟨_, rfl⟩
            have H6 : Hid (BkI w b b6 (b6 + 1) base (.slice a6 i c6) ((l.take i).map (normF true)) W6 ∧ Row W6 b9 #[.bool true, .int .i64 0, .int .i64 8, .bool true, B k0, B k1, B k2, B k3, S (data)] 51) := Lib.hid (by
              have hal : Below wr.heap.size wr W6 := by rw [hW6]; exact (Below.refl _ _).alloc (Nat.le_refl _) _
              exact ⟨HI.out.2.2.2.below hal, by rw [hW6, HB9.out]; exact row_new _ _ _⟩)
            have HC := Lib.hid (HBy ⟨true, 0, 8, true, ⟨k0, k1, k2, k3⟩, data⟩ W6 H6.out.1.bel (by have := HDA.out; have := HL.out.1; simp; omega))
            obtain ⟨Bt, hBt⟩ : ∃ y, y = bytesF ⟨true, 0, 8, true, ⟨k0, k1, k2, k3⟩, data⟩ := ⟨_, rfl⟩
            have hv : bytesV ⟨true, 0, 8, true, ⟨k0, k1, k2, k3⟩, data⟩ = .tuple #[S Bt, .int .i64 0] := by
              unfold bytesV
              rw [show okFr ⟨true, 0, 8, true, ⟨k0, k1, k2, k3⟩, data⟩ = true from by rw [HG.out]; exact norm_ok _ _, if_pos rfl, if_pos rfl, hBt]
            rw [hv] at HC
            have HBT : Hid (Bt = bytesF ⟨true, 0, 8, true, ⟨k0, k1, k2, k3⟩, data⟩ ∧ Bt.length ≤ 10014) := Lib.hid ⟨hBt, by rw [hBt]; have h := bytes_le ⟨true, 0, 8, true, ⟨k0, k1, k2, k3⟩, data⟩; have := HDA.out; have := HL.out.1; simp at h; omega⟩
            clear hBt hv
            unfold frV frC at HC
            rw [hW6] at HC
            dsimp only at HC
            go_wp2_with fail
            refine HC.out.mono ?_
            rintro e W7 ⟨rfl, hB⟩
            rw [← hW6] at hB
            rw [← HB9.out]
            have H7 := Lib.hid (H6.out.1.below hB)
            have hr7 := H6.out.2.below hB H6.out.2.lt
            have t6 := cell_of_row W7 _ 0 _ _ (0, 0) H7.out.r6
            have e0 := cell_of_row W7 b9 0 _ _ (0, 0) hr7
            have e1 := cell_of_row W7 b9 1 _ _ (0, 0) hr7
            have e2 := cell_of_row W7 b9 2 _ _ (0, 0) hr7
            have e3 := cell_of_row W7 b9 3 _ _ (0, 0) hr7
            have e4 := cell_of_row W7 b9 4 _ _ (0, 0) hr7
            have e5 := cell_of_row W7 b9 5 _ _ (0, 0) hr7
            have e6 := cell_of_row W7 b9 6 _ _ (0, 0) hr7
            have e7 := cell_of_row W7 b9 7 _ _ (0, 0) hr7
            have e8 := cell_of_row W7 b9 8 _ _ (0, 0) hr7
            obtain ⟨a8, c8, W8, hrun, t8, u8, hb8⟩ := H7.out.add (by rw [HVS.out]; have := HNb.out; omega) ⟨true, 0, 8, true, ⟨k0, k1, k2, k3⟩, data⟩
            rw [HVS.out] at hrun hb8
            unfold frC at hrun
            dsimp only at hrun
            have H8 := Lib.hid hb8
            have hadd : binOp .add 9 (S A) (S Bt) = pure (S (A ++ Bt)) := S_add 9 A Bt (by have := HDA.out; have := HBT.out; have := HL.out.2; omega)
            clear hB HC hW6 hb8 hr7 H6
            go_wp2_with (at_builtin; refine wpList_append_by rfl 48 48 (.tmp 79) (.tmp 81) rfl (.slice a6 i c6) (.slice (some ⟨W7.heap.size, 0, none⟩) 1 1) rfl rfl (.slice a8 (i + 1) c8) W8 hrun ?_)
            have htk : l.take (i + 1) = l.take i ++ [⟨fin, rsv, 3, mk, ⟨k0, k1, k2, k3⟩, data⟩] := by rw [List.take_add_one, HF.out]; rfl
            have h8 := H8.out
            rw [HG.out] at h8
            have hbt := HBT.out.1
            rw [HG.out] at hbt
            exact ⟨⟨i + 1, A ++ Bt, .slice a8 (i + 1) c8, by omega, rfl, by go_num, Lib.hid ⟨by rw [htk, List.map_append, List.flatMap_append, ← HI.out.1, hbt]; simp, by rw [List.length_append]; have := HDA.out; have := HBT.out.2; have := HL.out.2; omega, fun f hf => by
              rw [htk] at hf
              rcases List.mem_append.1 hf with h | h
              · exact HI.out.2.2.1 f h
              · rw [List.mem_singleton.1 h]; show data.length ≤ 10000; have := HDA.out; have := HL.out.1; omega, by rw [htk, List.map_append]; exact h8⟩⟩, by simp [intOf]; omega⟩
          · have hsl : ∀ W, (Instr.slice 9 (S data) none (some (.int .i64 125)) none).run Try.prog W = .ok (S (data.take 125)) W := fun W => slice_take (P := Try.prog) Try.underlying9 data 125 (by have := HL.out.1; omega) W
            have g5 : decide ((125 : Int) < (DL : Int)) = true := decide_eq_true (by omega)
            have g6 : decide ((DL : Int) ≤ 125) = false := decide_eq_false (by omega)
            have HG : Hid ((⟨true, 0, 8, true, ⟨k0, k1, k2, k3⟩, data.take 125⟩ : Frm) = normF true ⟨fin, rsv, 3, mk, ⟨k0, k1, k2, k3⟩, data⟩) := Lib.hid (by unfold normF; rw [(show opN 3 = 8 from by decide)]; simp)
            obtain ⟨W6, hW6⟩ : ∃ W, W = wr.alloc (.cells #[.bool true, .int .i64 0, .int .i64 8, .bool true, B k0, B k1, B k2, B k3, S (data.take 125)] 51) := ⟨_, rfl⟩
            have H6 : Hid (BkI w b b6 (b6 + 1) base (.slice a6 i c6) ((l.take i).map (normF true)) W6 ∧ Row W6 b9 #[.bool true, .int .i64 0, .int .i64 8, .bool true, B k0, B k1, B k2, B k3, S (data.take 125)] 51) := Lib.hid (by
              have hal : Below wr.heap.size wr W6 := by rw [hW6]; exact (Below.refl _ _).alloc (Nat.le_refl _) _
              exact ⟨HI.out.2.2.2.below hal, by rw [hW6, HB9.out]; exact row_new _ _ _⟩)
            have HC := Lib.hid (HBy ⟨true, 0, 8, true, ⟨k0, k1, k2, k3⟩, data.take 125⟩ W6 H6.out.1.bel (by have := HDA.out; have := HL.out.1; simp; omega))
            obtain ⟨Bt, hBt⟩ : ∃ y, y = bytesF ⟨true, 0, 8, true, ⟨k0, k1, k2, k3⟩, data.take 125⟩ := ⟨_, rfl⟩
            have hv : bytesV ⟨true, 0, 8, true, ⟨k0, k1, k2, k3⟩, data.take 125⟩ = .tuple #[S Bt, .int .i64 0] := by
              unfold bytesV
              rw [show okFr ⟨true, 0, 8, true, ⟨k0, k1, k2, k3⟩, data.take 125⟩ = true from by rw [HG.out]; exact norm_ok _ _, if_pos rfl, if_pos rfl, hBt]
            rw [hv] at HC
            have HBT : Hid (Bt = bytesF ⟨true, 0, 8, true, ⟨k0, k1, k2, k3⟩, data.take 125⟩ ∧ Bt.length ≤ 10014) := Lib.hid ⟨hBt, by rw [hBt]; have h := bytes_le ⟨true, 0, 8, true, ⟨k0, k1, k2, k3⟩, data.take 125⟩; have := HDA.out; have := HL.out.1; simp at h; omega⟩
            clear hBt hv
            unfold frV frC at HC
            rw [hW6] at HC
            dsimp only at HC
            go_wp2_with fail
            refine HC.out.mono ?_
            rintro e W7 ⟨rfl, hB⟩
            rw [← hW6] at hB
            rw [← HB9.out]
            have H7 := Lib.hid (H6.out.1.below hB)
            have hr7 := H6.out.2.below hB H6.out.2.lt
            have t6 := cell_of_row W7 _ 0 _ _ (0, 0) H7.out.r6
            have e0 := cell_of_row W7 b9 0 _ _ (0, 0) hr7
            have e1 := cell_of_row W7 b9 1 _ _ (0, 0) hr7
            have e2 := cell_of_row W7 b9 2 _ _ (0, 0) hr7
            have e3 := cell_of_row W7 b9 3 _ _ (0, 0) hr7
            have e4 := cell_of_row W7 b9 4 _ _ (0, 0) hr7
            have e5 := cell_of_row W7 b9 5 _ _ (0, 0) hr7
            have e6 := cell_of_row W7 b9 6 _ _ (0, 0) hr7
            have e7 := cell_of_row W7 b9 7 _ _ (0, 0) hr7
            have e8 := cell_of_row W7 b9 8 _ _ (0, 0) hr7
            obtain ⟨a8, c8, W8, hrun, t8, u8, hb8⟩ := H7.out.add (by rw [HVS.out]; have := HNb.out; omega) ⟨true, 0, 8, true, ⟨k0, k1, k2, k3⟩, data.take 125⟩
            rw [HVS.out] at hrun hb8
            unfold frC at hrun
            dsimp only at hrun
            have H8 := Lib.hid hb8
            have hadd : binOp .add 9 (S A) (S Bt) = pure (S (A ++ Bt)) := S_add 9 A Bt (by have := HDA.out; have := HBT.out; have := HL.out.2; omega)
            clear hB HC hW6 hb8 hr7 H6
            go_wp2_with (at_builtin; refine wpList_append_by rfl 48 48 (.tmp 79) (.tmp 81) rfl (.slice a6 i c6) (.slice (some ⟨W7.heap.size, 0, none⟩) 1 1) rfl rfl (.slice a8 (i + 1) c8) W8 hrun ?_)
            have htk : l.take (i + 1) = l.take i ++ [⟨fin, rsv, 3, mk, ⟨k0, k1, k2, k3⟩, data⟩] := by rw [List.take_add_one, HF.out]; rfl
            have h8 := H8.out
            rw [HG.out] at h8
            have hbt := HBT.out.1
            rw [HG.out] at hbt
            exact ⟨⟨i + 1, A ++ Bt, .slice a8 (i + 1) c8, by omega, rfl, by go_num, Lib.hid ⟨by rw [htk, List.map_append, List.flatMap_append, ← HI.out.1, hbt]; simp, by rw [List.length_append]; have := HDA.out; have := HBT.out.2; have := HL.out.2; omega, fun f hf => by
              rw [htk] at hf
              rcases List.mem_append.1 hf with h | h
              · exact HI.out.2.2.1 f h
              · rw [List.mem_singleton.1 h]; show data.length ≤ 10000; have := HDA.out; have := HL.out.1; omega, by rw [htk, List.map_append]; exact h8⟩⟩, by simp [intOf]; omega⟩
        · obtain rfl := hop
          by_cases h125 : DL ≤ 125
          · have hdt : data.take 125 = data := List.take_of_length_le (by have := HL.out.1; omega)
            have HDT := Lib.hid hdt
            have hsl : ∀ W, (Instr.slice 9 (S data) none (some (.int .i64 (DL : Int))) none).run Try.prog W = .ok (S data) W := fun W => by
              have h := slice_take (P := Try.prog) Try.underlying9 data DL (by rw [HL.out.1]; exact Nat.le_refl _) W
              rw [List.take_of_length_le (by rw [HL.out.1]; exact Nat.le_refl _)] at h
              exact h
            have g5 : decide ((125 : Int) < (DL : Int)) = false := decide_eq_false (by omega)
            have g6 : decide ((DL : Int) ≤ 125) = true := decide_eq_true (by omega)
            clear hdt
            have HG : Hid ((⟨true, 0, 9, true, ⟨k0, k1, k2, k3⟩, data⟩ : Frm) = normF true ⟨fin, rsv, 4, mk, ⟨k0, k1, k2, k3⟩, data⟩) := Lib.hid (by unfold normF; rw [(show opN 4 = 9 from by decide)]; simp [HDT.out])
            obtain ⟨W6, hW6⟩ : ∃ W, W = wr.alloc (.cells #[.bool true, .int .i64 0, .int .i64 9, .bool true, B k0, B k1, B k2, B k3, S (data)] 51) := ⟨_, rfl⟩
            have H6 : Hid (BkI w b b6 (b6 + 1) base (.slice a6 i c6) ((l.take i).map (normF true)) W6 ∧ Row W6 b9 #[.bool true, .int .i64 0, .int .i64 9, .bool true, B k0, B k1, B k2, B k3, S (data)] 51) := Lib.hid (by
              have hal : Below wr.heap.size wr W6 := by rw [hW6]; exact (Below.refl _ _).alloc (Nat.le_refl _) _
              exact ⟨HI.out.2.2.2.below hal, by rw [hW6, HB9.out]; exact row_new _ _ _⟩)
            have HC := Lib.hid (HBy ⟨true, 0, 9, true, ⟨k0, k1, k2, k3⟩, data⟩ W6 H6.out.1.bel (by have := HDA.out; have := HL.out.1; simp; omega))
            obtain ⟨Bt, hBt⟩ : ∃ y, y = bytesF ⟨true, 0, 9, true, ⟨k0, k1, k2, k3⟩, data⟩ := ⟨_, rfl⟩
            have hv : bytesV ⟨true, 0, 9, true, ⟨k0, k1, k2, k3⟩, data⟩ = .tuple #[S Bt, .int .i64 0] := by
              unfold bytesV
              rw [show okFr ⟨true, 0, 9, true, ⟨k0, k1, k2, k3⟩, data⟩ = true from by rw [HG.out]; exact norm_ok _ _, if_pos rfl, if_pos rfl, hBt]
            rw [hv] at HC
            have HBT : Hid (Bt = bytesF ⟨true, 0, 9, true, ⟨k0, k1, k2, k3⟩, data⟩ ∧ Bt.length ≤ 10014) := Lib.hid ⟨hBt, by rw [hBt]; have h := bytes_le ⟨true, 0, 9, true, ⟨k0, k1, k2, k3⟩, data⟩; have := HDA.out; have := HL.out.1; simp at h; omega⟩
            clear hBt hv
            unfold frV frC at HC
            rw [hW6] at HC
            dsimp only at HC
            go_wp2_with fail
            refine HC.out.mono ?_
            rintro e W7 ⟨rfl, hB⟩
            rw [← hW6] at hB
            rw [← HB9.out]
            have H7 := Lib.hid (H6.out.1.below hB)
            have hr7 := H6.out.2.below hB H6.out.2.lt
            have t6 := cell_of_row W7 _ 0 _ _ (0, 0) H7.out.r6
            have e0 := cell_of_row W7 b9 0 _ _ (0, 0) hr7
            have e1 := cell_of_row W7 b9 1 _ _ (0, 0) hr7
            have e2 := cell_of_row W7 b9 2 _ _ (0, 0) hr7
            have e3 := cell_of_row W7 b9 3 _ _ (0, 0) hr7
            have e4 := cell_of_row W7 b9 4 _ _ (0, 0) hr7
            have e5 := cell_of_row W7 b9 5 _ _ (0, 0) hr7
            have e6 := cell_of_row W7 b9 6 _ _ (0, 0) hr7
            have e7 := cell_of_row W7 b9 7 _ _ (0, 0) hr7
            have e8 := cell_of_row W7 b9 8 _ _ (0, 0) hr7
            obtain ⟨a8, c8, W8, hrun, t8, u8, hb8⟩ := H7.out.add (by rw [HVS.out]; have := HNb.out; omega) ⟨true, 0, 9, true, ⟨k0, k1, k2, k3⟩, data⟩
            rw [HVS.out] at hrun hb8
            unfold frC at hrun
            dsimp only at hrun
            have H8 := Lib.hid hb8
            have hadd : binOp .add 9 (S A) (S Bt) = pure (S (A ++ Bt)) := S_add 9 A Bt (by have := HDA.out; have := HBT.out; have := HL.out.2; omega)
            clear hB HC hW6 hb8 hr7 H6
            go_wp2_with (at_builtin; refine wpList_append_by rfl 48 48 (.tmp 79) (.tmp 81) rfl (.slice a6 i c6) (.slice (some ⟨W7.heap.size, 0, none⟩) 1 1) rfl rfl (.slice a8 (i + 1) c8) W8 hrun ?_)
            have htk : l.take (i + 1) = l.take i ++ [⟨fin, rsv, 4, mk, ⟨k0, k1, k2, k3⟩, data⟩] := by rw [List.take_add_one, HF.out]; rfl
            have h8 := H8.out
            rw [HG.out] at h8
            have hbt := HBT.out.1
            rw [HG.out] at hbt
            exact ⟨⟨i + 1, A ++ Bt, .slice a8 (i + 1) c8, by omega, rfl, by go_num, Lib.hid ⟨by rw [htk, List.map_append, List.flatMap_append, ← HI.out.1, hbt]; simp, by rw [List.length_append]; have := HDA.out; have := HBT.out.2; have := HL.out.2; omega, fun f hf => by
              rw [htk] at hf
              rcases List.mem_append.1 hf with h | h
              · exact HI.out.2.2.1 f h
              · rw [List.mem_singleton.1 h]; show data.length ≤ 10000; have := HDA.out; have := HL.out.1; omega, by rw [htk, List.map_append]; exact h8⟩⟩, by simp [intOf]; omega⟩
          · have hsl : ∀ W, (Instr.slice 9 (S data) none (some (.int .i64 125)) none).run Try.prog W = .ok (S (data.take 125)) W := fun W => slice_take (P := Try.prog) Try.underlying9 data 125 (by have := HL.out.1; omega) W
            have g5 : decide ((125 : Int) < (DL : Int)) = true := decide_eq_true (by omega)
            have g6 : decide ((DL : Int) ≤ 125) = false := decide_eq_false (by omega)
            have HG : Hid ((⟨true, 0, 9, true, ⟨k0, k1, k2, k3⟩, data.take 125⟩ : Frm) = normF true ⟨fin, rsv, 4, mk, ⟨k0, k1, k2, k3⟩, data⟩) := Lib.hid (by unfold normF; rw [(show opN 4 = 9 from by decide)]; simp)
            obtain ⟨W6, hW6⟩ : ∃ W, W = wr.alloc (.cells #[.bool true, .int .i64 0, .int .i64 9, .bool true, B k0, B k1, B k2, B k3, S (data.take 125)] 51) := ⟨_, rfl⟩
            have H6 : Hid (BkI w b b6 (b6 + 1) base (.slice a6 i c6) ((l.take i).map (normF true)) W6 ∧ Row W6 b9 #[.bool true, .int .i64 0, .int .i64 9, .bool true, B k0, B k1, B k2, B k3, S (data.take 125)] 51) := Lib.hid (by
              have hal : Below wr.heap.size wr W6 := by rw [hW6]; exact (Below.refl _ _).alloc (Nat.le_refl _) _
              exact ⟨HI.out.2.2.2.below hal, by rw [hW6, HB9.out]; exact row_new _ _ _⟩)
            have HC := Lib.hid (HBy ⟨true, 0, 9, true, ⟨k0, k1, k2, k3⟩, data.take 125⟩ W6 H6.out.1.bel (by have := HDA.out; have := HL.out.1; simp; omega))
            obtain ⟨Bt, hBt⟩ : ∃ y, y = bytesF ⟨true, 0, 9, true, ⟨k0, k1, k2, k3⟩, data.take 125⟩ := ⟨_, rfl⟩
            have hv : bytesV ⟨true, 0, 9, true, ⟨k0, k1, k2, k3⟩, data.take 125⟩ = .tuple #[S Bt, .int .i64 0] := by
              unfold bytesV
              rw [show okFr ⟨true, 0, 9, true, ⟨k0, k1, k2, k3⟩, data.take 125⟩ = true from by rw [HG.out]; exact norm_ok _ _, if_pos rfl, if_pos rfl, hBt]
            rw [hv] at HC
            have HBT : Hid (Bt = bytesF ⟨true, 0, 9, true, ⟨k0, k1, k2, k3⟩, data.take 125⟩ ∧ Bt.length ≤ 10014) := Lib.hid ⟨hBt, by rw [hBt]; have h := bytes_le ⟨true, 0, 9, true, ⟨k0, k1, k2, k3⟩, data.take 125⟩; have := HDA.out; have := HL.out.1; simp at h; omega⟩
            clear hBt hv
            unfold frV frC at HC
            rw [hW6] at HC
            dsimp only at HC
            go_wp2_with fail
            refine HC.out.mono ?_
            rintro e W7 ⟨rfl, hB⟩
            rw [← hW6] at hB
            rw [← HB9.out]
            have H7 := Lib.hid (H6.out.1.below hB)
            have hr7 := H6.out.2.below hB H6.out.2.lt
            have t6 := cell_of_row W7 _ 0 _ _ (0, 0) H7.out.r6
            have e0 := cell_of_row W7 b9 0 _ _ (0, 0) hr7
            have e1 := cell_of_row W7 b9 1 _ _ (0, 0) hr7
            have e2 := cell_of_row W7 b9 2 _ _ (0, 0) hr7
            have e3 := cell_of_row W7 b9 3 _ _ (0, 0) hr7
            have e4 := cell_of_row W7 b9 4 _ _ (0, 0) hr7
            have e5 := cell_of_row W7 b9 5 _ _ (0, 0) hr7
            have e6 := cell_of_row W7 b9 6 _ _ (0, 0) hr7
            have e7 := cell_of_row W7 b9 7 _ _ (0, 0) hr7
            have e8 := cell_of_row W7 b9 8 _ _ (0, 0) hr7
            obtain ⟨a8, c8, W8, hrun, t8, u8, hb8⟩ := H7.out.add (by rw [HVS.out]; have := HNb.out; omega) ⟨true, 0, 9, true, ⟨k0, k1, k2, k3⟩, data.take 125⟩
            rw [HVS.out] at hrun hb8
            unfold frC at hrun
            dsimp only at hrun
            have H8 := Lib.hid hb8
            have hadd : binOp .add 9 (S A) (S Bt) = pure (S (A ++ Bt)) := S_add 9 A Bt (by have := HDA.out; have := HBT.out; have := HL.out.2; omega)
            clear hB HC hW6 hb8 hr7 H6
            go_wp2_with (at_builtin; refine wpList_append_by rfl 48 48 (.tmp 79) (.tmp 81) rfl (.slice a6 i c6) (.slice (some ⟨W7.heap.size, 0, none⟩) 1 1) rfl rfl (.slice a8 (i + 1) c8) W8 hrun ?_)
            have htk : l.take (i + 1) = l.take i ++ [⟨fin, rsv, 4, mk, ⟨k0, k1, k2, k3⟩, data⟩] := by rw [List.take_add_one, HF.out]; rfl
            have h8 := H8.out
            rw [HG.out] at h8
            have hbt := HBT.out.1
            rw [HG.out] at hbt
            exact ⟨⟨i + 1, A ++ Bt, .slice a8 (i + 1) c8, by omega, rfl, by go_num, Lib.hid ⟨by rw [htk, List.map_append, List.flatMap_append, ← HI.out.1, hbt]; simp, by rw [List.length_append]; have := HDA.out; have := HBT.out.2; have := HL.out.2; omega, fun f hf => by
              rw [htk] at hf
              rcases List.mem_append.1 hf with h | h
              · exact HI.out.2.2.1 f h
              · rw [List.mem_singleton.1 h]; show data.length ≤ 10000; have := HDA.out; have := HL.out.1; omega, by rw [htk, List.map_append]; exact h8⟩⟩, by simp [intOf]; omega⟩
        · obtain rfl := hop
          by_cases h125 : DL ≤ 125
          · have hdt : data.take 125 = data := List.take_of_length_le (by have := HL.out.1; omega)
            have HDT := Lib.hid hdt
            have hsl : ∀ W, (Instr.slice 9 (S data) none (some (.int .i64 (DL : Int))) none).run Try.prog W = .ok (S data) W := fun W => by
              have h := slice_take (P := Try.prog) Try.underlying9 data DL (by rw [HL.out.1]; exact Nat.le_refl _) W
              rw [List.take_of_length_le (by rw [HL.out.1]; exact Nat.le_refl _)] at h
              exact h
            have g5 : decide ((125 : Int) < (DL : Int)) = false := decide_eq_false (by omega)
            have g6 : decide ((DL : Int) ≤ 125) = true := decide_eq_true (by omega)
            clear hdt
            have HG : Hid ((⟨true, 0, 10, true, ⟨k0, k1, k2, k3⟩, data⟩ : Frm) = normF true ⟨fin, rsv, 5, mk, ⟨k0, k1, k2, k3⟩, data⟩) := Lib.hid (by unfold normF; rw [(show opN 5 = 10 from by decide)]; simp [HDT.out])
            obtain ⟨W6, hW6⟩ : ∃ W, W = wr.alloc (.cells #[.bool true, .int .i64 0, .int .i64 10, .bool true, B k0, B k1, B k2, B k3, S (data)] 51) := ⟨_, rfl⟩
            have H6 : Hid (BkI w b b6 (b6 + 1) base (.slice a6 i c6) ((l.take i).map (normF true)) W6 ∧ Row W6 b9 #[.bool true, .int .i64 0, .int .i64 10, .bool true, B k0, B k1, B k2, B k3, S (data)] 51) := Lib.hid (by
              have hal : Below wr.heap.size wr W6 := by rw [hW6]; exact (Below.refl _ _).alloc (Nat.le_refl _) _
              exact ⟨HI.out.2.2.2.below hal, by rw [hW6, HB9.out]; exact row_new _ _ _⟩)
            have HC := Lib.hid (HBy ⟨true, 0, 10, true, ⟨k0, k1, k2, k3⟩, data⟩ W6 H6.out.1.bel (by have := HDA.out; have := HL.out.1; simp; omega))
            obtain ⟨Bt, hBt⟩ : ∃ y, y = bytesF ⟨true, 0, 10, true, ⟨k0, k1, k2, k3⟩, data⟩ := ⟨_, rfl⟩
            have hv : bytesV ⟨true, 0, 10, true, ⟨k0, k1, k2, k3⟩, data⟩ = .tuple #[S Bt, .int .i64 0] := by
              unfold bytesV
              rw [show okFr ⟨true, 0, 10, true, ⟨k0, k1, k2, k3⟩, data⟩ = true from by rw [HG.out]; exact norm_ok _ _, if_pos rfl, if_pos rfl, hBt]
            rw [hv] at HC
            have HBT : Hid (Bt = bytesF ⟨true, 0, 10, true, ⟨k0, k1, k2, k3⟩, data⟩ ∧ Bt.length ≤ 10014) := Lib.hid ⟨hBt, by rw [hBt]; have h := bytes_le ⟨true, 0, 10, true, ⟨k0, k1, k2, k3⟩, data⟩; have := HDA.out; have := HL.out.1; simp at h; omega⟩
            clear hBt hv
            unfold frV frC at HC
            rw [hW6] at HC
            dsimp only at HC
            go_wp2_with fail
            refine HC.out.mono ?_
            rintro e W7 ⟨rfl, hB⟩
            rw [← hW6] at hB
            rw [← HB9.out]
            have H7 := Lib.hid (H6.out.1.below hB)
            have hr7 := H6.out.2.below hB H6.out.2.lt
            have t6 := cell_of_row W7 _ 0 _ _ (0, 0) H7.out.r6
            have e0 := cell_of_row W7 b9 0 _ _ (0, 0) hr7
            have e1 := cell_of_row W7 b9 1 _ _ (0, 0) hr7
            have e2 := cell_of_row W7 b9 2 _ _ (0, 0) hr7
            have e3 := cell_of_row W7 b9 3 _ _ (0, 0) hr7
            have e4 := cell_of_row W7 b9 4 _ _ (0, 0) hr7
            have e5 := cell_of_row W7 b9 5 _ _ (0, 0) hr7
            have e6 := cell_of_row W7 b9 6 _ _ (0, 0) hr7
            have e7 := cell_of_row W7 b9 7 _ _ (0, 0) hr7
            have e8 := cell_of_row W7 b9 8 _ _ (0, 0) hr7
            obtain ⟨a8, c8, W8, hrun, t8, u8, hb8⟩ := H7.out.add (by rw [HVS.out]; have := HNb.out; omega) ⟨true, 0, 10, true, ⟨k0, k1, k2, k3⟩, data⟩
            rw [HVS.out] at hrun hb8
            unfold frC at hrun
            dsimp only at hrun
            have H8 := Lib.hid hb8
            have hadd : binOp .add 9 (S A) (S Bt) = pure (S (A ++ Bt)) := S_add 9 A Bt (by have := HDA.out; have := HBT.out; have := HL.out.2; omega)
            clear hB HC hW6 hb8 hr7 H6
            go_wp2_with (at_builtin; refine wpList_append_by rfl 48 48 (.tmp 79) (.tmp 81) rfl (.slice a6 i c6) (.slice (some ⟨W7.heap.size, 0, none⟩) 1 1) rfl rfl (.slice a8 (i + 1) c8) W8 hrun ?_)
            have htk : l.take (i + 1) = l.take i ++ [⟨fin, rsv, 5, mk, ⟨k0, k1, k2, k3⟩, data⟩] := by rw [List.take_add_one, HF.out]; rfl
            have h8 := H8.out
            rw [HG.out] at h8
            have hbt := HBT.out.1
            rw [HG.out] at hbt
            exact ⟨⟨i + 1, A ++ Bt, .slice a8 (i + 1) c8, by omega, rfl, by go_num, Lib.hid ⟨by rw [htk, List.map_append, List.flatMap_append, ← HI.out.1, hbt]; simp, by rw [List.length_append]; have := HDA.out; have := HBT.out.2; have := HL.out.2; omega, fun f hf => by
              rw [htk] at hf
              rcases List.mem_append.1 hf with h | h
              · exact HI.out.2.2.1 f h
              · rw [List.mem_singleton.1 h]; show data.length ≤ 10000; have := HDA.out; have := HL.out.1; omega, by rw [htk, List.map_append]; exact h8⟩⟩, by simp [intOf]; omega⟩
          · have hsl : ∀ W, (Instr.slice 9 (S data) none (some (.int .i64 125)) none).run Try.prog W = .ok (S (data.take 125)) W := fun W => slice_take (P := Try.prog) Try.underlying9 data 125 (by have := HL.out.1; omega) W
            have g5 : decide ((125 : Int) < (DL : Int)) = true := decide_eq_true (by omega)
            have g6 : decide ((DL : Int) ≤ 125) = false := decide_eq_false (by omega)
            have HG : Hid ((⟨true, 0, 10, true, ⟨k0, k1, k2, k3⟩, data.take 125⟩ : Frm) = normF true ⟨fin, rsv, 5, mk, ⟨k0, k1, k2, k3⟩, data⟩) := Lib.hid (by unfold normF; rw [(show opN 5 = 10 from by decide)]; simp)
            obtain ⟨W6, hW6⟩ : ∃ W, W = wr.alloc (.cells #[.bool true, .int .i64 0, .int .i64 10, .bool true, B k0, B k1, B k2, B k3, S (data.take 125)] 51) := ⟨_, rfl⟩
            have H6 : Hid (BkI w b b6 (b6 + 1) base (.slice a6 i c6) ((l.take i).map (normF true)) W6 ∧ Row W6 b9 #[.bool true, .int .i64 0, .int .i64 10, .bool true, B k0, B k1, B k2, B k3, S (data.take 125)] 51) := Lib.hid (by
              have hal : Below wr.heap.size wr W6 := by rw [hW6]; exact (Below.refl _ _).alloc (Nat.le_refl _) _
              exact ⟨HI.out.2.2.2.below hal, by rw [hW6, HB9.out]; exact row_new _ _ _⟩)
            have HC := Lib.hid (HBy ⟨true, 0, 10, true, ⟨k0, k1, k2, k3⟩, data.take 125⟩ W6 H6.out.1.bel (by have := HDA.out; have := HL.out.1; simp; omega))
            obtain ⟨Bt, hBt⟩ : ∃ y, y = bytesF ⟨true, 0, 10, true, ⟨k0, k1, k2, k3⟩, data.take 125⟩ := ⟨_, rfl⟩
            have hv : bytesV ⟨true, 0, 10, true, ⟨k0, k1, k2, k3⟩, data.take 125⟩ = .tuple #[S Bt, .int .i64 0] := by
              unfold bytesV
              rw [show okFr ⟨true, 0, 10, true, ⟨k0, k1, k2, k3⟩, data.take 125⟩ = true from by rw [HG.out]; exact norm_ok _ _, if_pos rfl, if_pos rfl, hBt]
            rw [hv] at HC
            have HBT : Hid (Bt = bytesF ⟨true, 0, 10, true, ⟨k0, k1, k2, k3⟩, data.take 125⟩ ∧ Bt.length ≤ 10014) := Lib.hid ⟨hBt, by rw [hBt]; have h := bytes_le ⟨true, 0, 10, true, ⟨k0, k1, k2, k3⟩, data.take 125⟩; have := HDA.out; have := HL.out.1; simp at h; omega⟩
            clear hBt hv
            unfold frV frC at HC
            rw [hW6] at HC
            dsimp only at HC
            go_wp2_with fail
            refine HC.out.mono ?_
            rintro e W7 ⟨rfl, hB⟩
            rw [← hW6] at hB
            rw [← HB9.out]
            have H7 := Lib.hid (H6.out.1.below hB)
            have hr7 := H6.out.2.below hB H6.out.2.lt
            have t6 := cell_of_row W7 _ 0 _ _ (0, 0) H7.out.r6
            have e0 := cell_of_row W7 b9 0 _ _ (0, 0) hr7
            have e1 := cell_of_row W7 b9 1 _ _ (0, 0) hr7
            have e2 := cell_of_row W7 b9 2 _ _ (0, 0) hr7
            have e3 := cell_of_row W7 b9 3 _ _ (0, 0) hr7
            have e4 := cell_of_row W7 b9 4 _ _ (0, 0) hr7
            have e5 := cell_of_row W7 b9 5 _ _ (0, 0) hr7
            have e6 := cell_of_row W7 b9 6 _ _ (0, 0) hr7
            have e7 := cell_of_row W7 b9 7 _ _ (0, 0) hr7
            have e8 := cell_of_row W7 b9 8 _ _ (0, 0) hr7
            obtain ⟨a8, c8, W8, hrun, t8, u8, hb8⟩ := H7.out.add (by rw [HVS.out]; have := HNb.out; omega) ⟨true, 0, 10, true, ⟨k0, k1, k2, k3⟩, data.take 125⟩
            rw [HVS.out] at hrun hb8
            unfold frC at hrun
            dsimp only at hrun
            have H8 := Lib.hid hb8
            have hadd : binOp .add 9 (S A) (S Bt) = pure (S (A ++ Bt)) := S_add 9 A Bt (by have := HDA.out; have := HBT.out; have := HL.out.2; omega)
            clear hB HC hW6 hb8 hr7 H6
            go_wp2_with (at_builtin; refine wpList_append_by rfl 48 48 (.tmp 79) (.tmp 81) rfl (.slice a6 i c6) (.slice (some ⟨W7.heap.size, 0, none⟩) 1 1) rfl rfl (.slice a8 (i + 1) c8) W8 hrun ?_)
            have htk : l.take (i + 1) = l.take i ++ [⟨fin, rsv, 5, mk, ⟨k0, k1, k2, k3⟩, data⟩] := by rw [List.take_add_one, HF.out]; rfl
            have h8 := H8.out
            rw [HG.out] at h8
            have hbt := HBT.out.1
            rw [HG.out] at hbt
            exact ⟨⟨i + 1, A ++ Bt, .slice a8 (i + 1) c8, by omega, rfl, by go_num, Lib.hid ⟨by rw [htk, List.map_append, List.flatMap_append, ← HI.out.1, hbt]; simp, by rw [List.length_append]; have := HDA.out; have := HBT.out.2; have := HL.out.2; omega, fun f hf => by
              rw [htk] at hf
              rcases List.mem_append.1 hf with h | h
              · exact HI.out.2.2.1 f h
              · rw [List.mem_singleton.1 h]; show data.length ≤ 10000; have := HDA.out; have := HL.out.1; omega, by rw [htk, List.map_append]; exact h8⟩⟩, by simp [intOf]; omega⟩
        · have hop1 : ¬ (op ≤ 5) := by omega
          have hop2 : decide (op ≤ 5) = false := decide_eq_false hop1
          have hop3 : 0 ≤ op := by omega
          have hop4 : 5 ≤ op := by omega
          have HOP : Hid (opN op = 10) := Lib.hid (opN_high op (by omega))
          by_cases h125 : DL ≤ 125
          · have hdt : data.take 125 = data := List.take_of_length_le (by have := HL.out.1; omega)
            have HDT := Lib.hid hdt
            have hsl : ∀ W, (Instr.slice 9 (S data) none (some (.int .i64 (DL : Int))) none).run Try.prog W = .ok (S data) W := fun W => by
              have h := slice_take (P := Try.prog) Try.underlying9 data DL (by rw [HL.out.1]; exact Nat.le_refl _) W
              rw [List.take_of_length_le (by rw [HL.out.1]; exact Nat.le_refl _)] at h
              exact h
            have g5 : decide ((125 : Int) < (DL : Int)) = false := decide_eq_false (by omega)
            have g6 : decide ((DL : Int) ≤ 125) = true := decide_eq_true (by omega)
            clear hdt
            have HG : Hid ((⟨true, 0, 10, true, ⟨k0, k1, k2, k3⟩, data⟩ : Frm) = normF true ⟨fin, rsv, op, mk, ⟨k0, k1, k2, k3⟩, data⟩) := Lib.hid (by unfold normF; rw [HOP.out]; simp [HDT.out])
            obtain ⟨W6, hW6⟩ : ∃ W, W = wr.alloc (.cells #[.bool true, .int .i64 0, .int .i64 10, .bool true, B k0, B k1, B k2, B k3, S (data)] 51) := ⟨_, rfl⟩
            have H6 : Hid (BkI w b b6 (b6 + 1) base (.slice a6 i c6) ((l.take i).map (normF true)) W6 ∧ Row W6 b9 #[.bool true, .int .i64 0, .int .i64 10, .bool true, B k0, B k1, B k2, B k3, S (data)] 51) := Lib.hid (by
              have hal : Below wr.heap.size wr W6 := by rw [hW6]; exact (Below.refl _ _).alloc (Nat.le_refl _) _
              exact ⟨HI.out.2.2.2.below hal, by rw [hW6, HB9.out]; exact row_new _ _ _⟩)
            have HC := Lib.hid (HBy ⟨true, 0, 10, true, ⟨k0, k1, k2, k3⟩, data⟩ W6 H6.out.1.bel (by have := HDA.out; have := HL.out.1; simp; omega))
            obtain ⟨Bt, hBt⟩ : ∃ y, y = bytesF ⟨true, 0, 10, true, ⟨k0, k1, k2, k3⟩, data⟩ := ⟨_, rfl⟩
            have hv : bytesV ⟨true, 0, 10, true, ⟨k0, k1, k2, k3⟩, data⟩ = .tuple #[S Bt, .int .i64 0] := by
              unfold bytesV
              rw [show okFr ⟨true, 0, 10, true, ⟨k0, k1, k2, k3⟩, data⟩ = true from by rw [HG.out]; exact norm_ok _ _, if_pos rfl, if_pos rfl, hBt]
            rw [hv] at HC
            have HBT : Hid (Bt = bytesF ⟨true, 0, 10, true, ⟨k0, k1, k2, k3⟩, data⟩ ∧ Bt.length ≤ 10014) := Lib.hid ⟨hBt, by rw [hBt]; have h := bytes_le ⟨true, 0, 10, true, ⟨k0, k1, k2, k3⟩, data⟩; have := HDA.out; have := HL.out.1; simp at h; omega⟩
            clear hBt hv
            unfold frV frC at HC
            rw [hW6] at HC
            dsimp only at HC
            go_wp2_with fail
            refine HC.out.mono ?_
            rintro e W7 ⟨rfl, hB⟩
            rw [← hW6] at hB
            rw [← HB9.out]
            have H7 := Lib.hid (H6.out.1.below hB)
            have hr7 := H6.out.2.below hB H6.out.2.lt
            have t6 := cell_of_row W7 _ 0 _ _ (0, 0) H7.out.r6
            have e0 := cell_of_row W7 b9 0 _ _ (0, 0) hr7
            have e1 := cell_of_row W7 b9 1 _ _ (0, 0) hr7
            have e2 := cell_of_row W7 b9 2 _ _ (0, 0) hr7
            have e3 := cell_of_row W7 b9 3 _ _ (0, 0) hr7
            have e4 := cell_of_row W7 b9 4 _ _ (0, 0) hr7
            have e5 := cell_of_row W7 b9 5 _ _ (0, 0) hr7
            have e6 := cell_of_row W7 b9 6 _ _ (0, 0) hr7
            have e7 := cell_of_row W7 b9 7 _ _ (0, 0) hr7
            have e8 := cell_of_row W7 b9 8 _ _ (0, 0) hr7
            obtain ⟨a8, c8, W8, hrun, t8, u8, hb8⟩ := H7.out.add (by rw [HVS.out]; have := HNb.out; omega) ⟨true, 0, 10, true, ⟨k0, k1, k2, k3⟩, data⟩
            rw [HVS.out] at hrun hb8
            unfold frC at hrun
            dsimp only at hrun
            have H8 := Lib.hid hb8
            have hadd : binOp .add 9 (S A) (S Bt) = pure (S (A ++ Bt)) := S_add 9 A Bt (by have := HDA.out; have := HBT.out; have := HL.out.2; omega)
            clear hB HC hW6 hb8 hr7 H6
            go_wp2_with (at_builtin; refine wpList_append_by rfl 48 48 (.tmp 79) (.tmp 81) rfl (.slice a6 i c6) (.slice (some ⟨W7.heap.size, 0, none⟩) 1 1) rfl rfl (.slice a8 (i + 1) c8) W8 hrun ?_)
            have htk : l.take (i + 1) = l.take i ++ [⟨fin, rsv, op, mk, ⟨k0, k1, k2, k3⟩, data⟩] := by rw [List.take_add_one, HF.out]; rfl
            have h8 := H8.out
            rw [HG.out] at h8
            have hbt := HBT.out.1
            rw [HG.out] at hbt
            exact ⟨⟨i + 1, A ++ Bt, .slice a8 (i + 1) c8, by omega, rfl, by go_num, Lib.hid ⟨by rw [htk, List.map_append, List.flatMap_append, ← HI.out.1, hbt]; simp, by rw [List.length_append]; have := HDA.out; have := HBT.out.2; have := HL.out.2; omega, fun f hf => by
              rw [htk] at hf
              rcases List.mem_append.1 hf with h | h
              · exact HI.out.2.2.1 f h
              · rw [List.mem_singleton.1 h]; show data.length ≤ 10000; have := HDA.out; have := HL.out.1; omega, by rw [htk, List.map_append]; exact h8⟩⟩, by simp [intOf]; omega⟩
          · have hsl : ∀ W, (Instr.slice 9 (S data) none (some (.int .i64 125)) none).run Try.prog W = .ok (S (data.take 125)) W := fun W => slice_take (P := Try.prog) Try.underlying9 data 125 (by have := HL.out.1; omega) W
            have g5 : decide ((125 : Int) < (DL : Int)) = true := decide_eq_true (by omega)
            have g6 : decide ((DL : Int) ≤ 125) = false := decide_eq_false (by omega)
            have HG : Hid ((⟨true, 0, 10, true, ⟨k0, k1, k2, k3⟩, data.take 125⟩ : Frm) = normF true ⟨fin, rsv, op, mk, ⟨k0, k1, k2, k3⟩, data⟩) := Lib.hid (by unfold normF; rw [HOP.out]; simp)
            obtain ⟨W6, hW6⟩ : ∃ W, W = wr.alloc (.cells #[.bool true, .int .i64 0, .int .i64 10, .bool true, B k0, B k1, B k2, B k3, S (data.take 125)] 51) := ⟨_, rfl⟩
            have H6 : Hid (BkI w b b6 (b6 + 1) base (.slice a6 i c6) ((l.take i).map (normF true)) W6 ∧ Row W6 b9 #[.bool true, .int .i64 0, .int .i64 10, .bool true, B k0, B k1, B k2, B k3, S (data.take 125)] 51) := Lib.hid (by
              have hal : Below wr.heap.size wr W6 := by rw [hW6]; exact (Below.refl _ _).alloc (Nat.le_refl _) _
              exact ⟨HI.out.2.2.2.below hal, by rw [hW6, HB9.out]; exact row_new _ _ _⟩)
            have HC := Lib.hid (HBy ⟨true, 0, 10, true, ⟨k0, k1, k2, k3⟩, data.take 125⟩ W6 H6.out.1.bel (by have := HDA.out; have := HL.out.1; simp; omega))
            obtain ⟨Bt, hBt⟩ : ∃ y, y = bytesF ⟨true, 0, 10, true, ⟨k0, k1, k2, k3⟩, data.take 125⟩ := ⟨_, rfl⟩
            have hv : bytesV ⟨true, 0, 10, true, ⟨k0, k1, k2, k3⟩, data.take 125⟩ = .tuple #[S Bt, .int .i64 0] := by
              unfold bytesV
              rw [show okFr ⟨true, 0, 10, true, ⟨k0, k1, k2, k3⟩, data.take 125⟩ = true from by rw [HG.out]; exact norm_ok _ _, if_pos rfl, if_pos rfl, hBt]
            rw [hv] at HC
            have HBT : Hid (Bt = bytesF ⟨true, 0, 10, true, ⟨k0, k1, k2, k3⟩, data.take 125⟩ ∧ Bt.length ≤ 10014) := Lib.hid ⟨hBt, by rw [hBt]; have h := bytes_le ⟨true, 0, 10, true, ⟨k0, k1, k2, k3⟩, data.take 125⟩; have := HDA.out; have := HL.out.1; simp at h; omega⟩
            clear hBt hv
            unfold frV frC at HC
            rw [hW6] at HC
            dsimp only at HC
            go_wp2_with fail
            refine HC.out.mono ?_
            rintro e W7 ⟨rfl, hB⟩
            rw [← hW6] at hB
            rw [← HB9.out]
            have H7 := Lib.hid (H6.out.1.below hB)
            have hr7 := H6.out.2.below hB H6.out.2.lt
            have t6 := cell_of_row W7 _ 0 _ _ (0, 0) H7.out.r6
            have e0 := cell_of_row W7 b9 0 _ _ (0, 0) hr7
            have e1 := cell_of_row W7 b9 1 _ _ (0, 0) hr7
            have e2 := cell_of_row W7 b9 2 _ _ (0, 0) hr7
            have e3 := cell_of_row W7 b9 3 _ _ (0, 0) hr7
            have e4 := cell_of_row W7 b9 4 _ _ (0, 0) hr7
            have e5 := cell_of_row W7 b9 5 _ _ (0, 0) hr7
            have e6 := cell_of_row W7 b9 6 _ _ (0, 0) hr7
            have e7 := cell_of_row W7 b9 7 _ _ (0, 0) hr7
            have e8 := cell_of_row W7 b9 8 _ _ (0, 0) hr7
            obtain ⟨a8, c8, W8, hrun, t8, u8, hb8⟩ := H7.out.add (by rw [HVS.out]; have := HNb.out; omega) ⟨true, 0, 10, true, ⟨k0, k1, k2, k3⟩, data.take 125⟩
            rw [HVS.out] at hrun hb8
            unfold frC at hrun
            dsimp only at hrun
            have H8 := Lib.hid hb8
            have hadd : binOp .add 9 (S A) (S Bt) = pure (S (A ++ Bt)) := S_add 9 A Bt (by have := HDA.out; have := HBT.out; have := HL.out.2; omega)
            clear hB HC hW6 hb8 hr7 H6
            go_wp2_with (at_builtin; refine wpList_append_by rfl 48 48 (.tmp 79) (.tmp 81) rfl (.slice a6 i c6) (.slice (some ⟨W7.heap.size, 0, none⟩) 1 1) rfl rfl (.slice a8 (i + 1) c8) W8 hrun ?_)
            have htk : l.take (i + 1) = l.take i ++ [⟨fin, rsv, op, mk, ⟨k0, k1, k2, k3⟩, data⟩] := by rw [List.take_add_one, HF.out]; rfl
            have h8 := H8.out
            rw [HG.out] at h8
            have hbt := HBT.out.1
            rw [HG.out] at hbt
            exact ⟨⟨i + 1, A ++ Bt, .slice a8 (i + 1) c8, by omega, rfl, by go_num, Lib.hid ⟨by rw [htk, List.map_append, List.flatMap_append, ← HI.out.1, hbt]; simp, by rw [List.length_append]; have := HDA.out; have := HBT.out.2; have := HL.out.2; omega, fun f hf => by
              rw [htk] at hf
              rcases List.mem_append.1 hf with h | h
              · exact HI.out.2.2.1 f h
              · rw [List.mem_singleton.1 h]; show data.length ≤ 10000; have := HDA.out; have := HL.out.1; omega, by rw [htk, List.map_append]; exact h8⟩⟩, by simp [intOf]; omega⟩
      | false =>
        have hop : op < 0 ∨ op = 0 ∨ op = 1 ∨ op = 2 ∨ op = 3 ∨ op = 4 ∨ op = 5 ∨ 5 < op := by omega
        rcases hop with hop | hop | hop | hop | hop | hop | hop | hop
        · have hop1 : ¬ (0 ≤ op) := by omega
          have hop2 : decide (0 ≤ op) = false := decide_eq_false hop1
          have HOP : Hid (opN op = 0) := Lib.hid (opN_low op (by omega))
          have HG : Hid ((⟨fin, 0, 0, false, key0, data⟩ : Frm) = normF false ⟨fin, rsv, op, mk, ⟨k0, k1, k2, k3⟩, data⟩) := Lib.hid (by unfold normF; rw [HOP.out]; simp)
          obtain ⟨W6, hW6⟩ : ∃ W, W = wr.alloc (.cells #[.bool fin, .int .i64 0, .int .i64 0, .bool false, .int .u8 0, .int .u8 0, .int .u8 0, .int .u8 0, S (data)] 51) := ⟨_, rfl⟩
          have H6 : Hid (BkI w b b6 (b6 + 1) base (.slice a6 i c6) ((l.take i).map (normF false)) W6 ∧ Row W6 b9 #[.bool fin, .int .i64 0, .int .i64 0, .bool false, .int .u8 0, .int .u8 0, .int .u8 0, .int .u8 0, S (data)] 51) := Lib.hid (by
            have hal : Below wr.heap.size wr W6 := by rw [hW6]; exact (Below.refl _ _).alloc (Nat.le_refl _) _
            exact ⟨HI.out.2.2.2.below hal, by rw [hW6, HB9.out]; exact row_new _ _ _⟩)
          have HC := Lib.hid (HBy ⟨fin, 0, 0, false, key0, data⟩ W6 H6.out.1.bel (by have := HDA.out; have := HL.out.1; simp; omega))
          obtain ⟨Bt, hBt⟩ : ∃ y, y = bytesF ⟨fin, 0, 0, false, key0, data⟩ := ⟨_, rfl⟩
          have hv : bytesV ⟨fin, 0, 0, false, key0, data⟩ = .tuple #[S Bt, .int .i64 0] := by
            unfold bytesV
            rw [show okFr ⟨fin, 0, 0, false, key0, data⟩ = true from by rw [HG.out]; exact norm_ok _ _, if_pos rfl, if_pos rfl, hBt]
          rw [hv] at HC
          have HBT : Hid (Bt = bytesF ⟨fin, 0, 0, false, key0, data⟩ ∧ Bt.length ≤ 10014) := Lib.hid ⟨hBt, by rw [hBt]; have h := bytes_le ⟨fin, 0, 0, false, key0, data⟩; have := HDA.out; have := HL.out.1; simp at h; omega⟩
          clear hBt hv
          unfold frV frC at HC
          rw [hW6] at HC
          dsimp only at HC
          go_wp2_with fail
          refine HC.out.mono ?_
          rintro e W7 ⟨rfl, hB⟩
          rw [← hW6] at hB
          rw [← HB9.out]
          have H7 := Lib.hid (H6.out.1.below hB)
          have hr7 := H6.out.2.below hB H6.out.2.lt
          have t6 := cell_of_row W7 _ 0 _ _ (0, 0) H7.out.r6
          have e0 := cell_of_row W7 b9 0 _ _ (0, 0) hr7
          have e1 := cell_of_row W7 b9 1 _ _ (0, 0) hr7
          have e2 := cell_of_row W7 b9 2 _ _ (0, 0) hr7
          have e3 := cell_of_row W7 b9 3 _ _ (0, 0) hr7
          have e4 := cell_of_row W7 b9 4 _ _ (0, 0) hr7
          have e5 := cell_of_row W7 b9 5 _ _ (0, 0) hr7
          have e6 := cell_of_row W7 b9 6 _ _ (0, 0) hr7
          have e7 := cell_of_row W7 b9 7 _ _ (0, 0) hr7
          have e8 := cell_of_row W7 b9 8 _ _ (0, 0) hr7
          obtain ⟨a8, c8, W8, hrun, t8, u8, hb8⟩ := H7.out.add (by rw [HVS.out]; have := HNb.out; omega) ⟨fin, 0, 0, false, key0, data⟩
          rw [HVS.out] at hrun hb8
          unfold frC at hrun
          dsimp only at hrun
          have H8 := Lib.hid hb8
          have hadd : binOp .add 9 (S A) (S Bt) = pure (S (A ++ Bt)) := S_add 9 A Bt (by have := HDA.out; have := HBT.out; have := HL.out.2; omega)
          clear hB HC hW6 hb8 hr7 H6
          go_wp2_with (at_builtin; refine wpList_append_by rfl 48 48 (.tmp 79) (.tmp 81) rfl (.slice a6 i c6) (.slice (some ⟨W7.heap.size, 0, none⟩) 1 1) rfl rfl (.slice a8 (i + 1) c8) W8 hrun ?_)
          have htk : l.take (i + 1) = l.take i ++ [⟨fin, rsv, op, mk, ⟨k0, k1, k2, k3⟩, data⟩] := by rw [List.take_add_one, HF.out]; rfl
          have h8 := H8.out
          rw [HG.out] at h8
          have hbt := HBT.out.1
          rw [HG.out] at hbt
          exact ⟨⟨i + 1, A ++ Bt, .slice a8 (i + 1) c8, by omega, rfl, by go_num, Lib.hid ⟨by rw [htk, List.map_append, List.flatMap_append, ← HI.out.1, hbt]; simp, by rw [List.length_append]; have := HDA.out; have := HBT.out.2; have := HL.out.2; omega, fun f hf => by
            rw [htk] at hf
            rcases List.mem_append.1 hf with h | h
            · exact HI.out.2.2.1 f h
            · rw [List.mem_singleton.1 h]; show data.length ≤ 10000; have := HDA.out; have := HL.out.1; omega, by rw [htk, List.map_append]; exact h8⟩⟩, by simp [intOf]; omega⟩
        · obtain rfl := hop
          have HG : Hid ((⟨fin, 0, 0, false, key0, data⟩ : Frm) = normF false ⟨fin, rsv, 0, mk, ⟨k0, k1, k2, k3⟩, data⟩) := Lib.hid (by unfold normF; rw [(show opN 0 = 0 from by decide)]; simp)
          obtain ⟨W6, hW6⟩ : ∃ W, W = wr.alloc (.cells #[.bool fin, .int .i64 0, .int .i64 0, .bool false, .int .u8 0, .int .u8 0, .int .u8 0, .int .u8 0, S (data)] 51) := ⟨_, rfl⟩
          have H6 : Hid (BkI w b b6 (b6 + 1) base (.slice a6 i c6) ((l.take i).map (normF false)) W6 ∧ Row W6 b9 #[.bool fin, .int .i64 0, .int .i64 0, .bool false, .int .u8 0, .int .u8 0, .int .u8 0, .int .u8 0, S (data)] 51) := Lib.hid (by
            have hal : Below wr.heap.size wr W6 := by rw [hW6]; exact (Below.refl _ _).alloc (Nat.le_refl _) _
            exact ⟨HI.out.2.2.2.below hal, by rw [hW6, HB9.out]; exact row_new _ _ _⟩)
          have HC := Lib.hid (HBy ⟨fin, 0, 0, false, key0, data⟩ W6 H6.out.1.bel (by have := HDA.out; have := HL.out.1; simp; omega))
          obtain ⟨Bt, hBt⟩ : ∃ y, y = bytesF ⟨fin, 0, 0, false, key0, data⟩ := ⟨_, rfl⟩
          have hv : bytesV ⟨fin, 0, 0, false, key0, data⟩ = .tuple #[S Bt, .int .i64 0] := by
            unfold bytesV
            rw [show okFr ⟨fin, 0, 0, false, key0, data⟩ = true from by rw [HG.out]; exact norm_ok _ _, if_pos rfl, if_pos rfl, hBt]
          rw [hv] at HC
          have HBT : Hid (Bt = bytesF ⟨fin, 0, 0, false, key0, data⟩ ∧ Bt.length ≤ 10014) := Lib.hid ⟨hBt, by rw [hBt]; have h := bytes_le ⟨fin, 0, 0, false, key0, data⟩; have := HDA.out; have := HL.out.1; simp at h; omega⟩
          clear hBt hv
          unfold frV frC at HC
          rw [hW6] at HC
          dsimp only at HC
          go_wp2_with fail
          refine HC.out.mono ?_
          rintro e W7 ⟨rfl, hB⟩
          rw [← hW6] at hB
          rw [← HB9.out]
          have H7 := Lib.hid (H6.out.1.below hB)
          have hr7 := H6.out.2.below hB H6.out.2.lt
          have t6 := cell_of_row W7 _ 0 _ _ (0, 0) H7.out.r6
          have e0 := cell_of_row W7 b9 0 _ _ (0, 0) hr7
          have e1 := cell_of_row W7 b9 1 _ _ (0, 0) hr7
          have e2 := cell_of_row W7 b9 2 _ _ (0, 0) hr7
          have e3 := cell_of_row W7 b9 3 _ _ (0, 0) hr7
          have e4 := cell_of_row W7 b9 4 _ _ (0, 0) hr7
          have e5 := cell_of_row W7 b9 5 _ _ (0, 0) hr7
          have e6 := cell_of_row W7 b9 6 _ _ (0, 0) hr7
          have e7 := cell_of_row W7 b9 7 _ _ (0, 0) hr7
          have e8 := cell_of_row W7 b9 8 _ _ (0, 0) hr7
          obtain ⟨a8, c8, W8, hrun, t8, u8, hb8⟩ := H7.out.add (by rw [HVS.out]; have := HNb.out; omega) ⟨fin, 0, 0, false, key0, data⟩
          rw [HVS.out] at hrun hb8
          unfold frC at hrun
          dsimp only at hrun
          have H8 := Lib.hid hb8
          have hadd : binOp .add 9 (S A) (S Bt) = pure (S (A ++ Bt)) := S_add 9 A Bt (by have := HDA.out; have := HBT.out; have := HL.out.2; omega)
          clear hB HC hW6 hb8 hr7 H6
          go_wp2_with (at_builtin; refine wpList_append_by rfl 48 48 (.tmp 79) (.tmp 81) rfl (.slice a6 i c6) (.slice (some ⟨W7.heap.size, 0, none⟩) 1 1) rfl rfl (.slice a8 (i + 1) c8) W8 hrun ?_)
          have htk : l.take (i + 1) = l.take i ++ [⟨fin, rsv, 0, mk, ⟨k0, k1, k2, k3⟩, data⟩] := by rw [List.take_add_one, HF.out]; rfl
          have h8 := H8.out
          rw [HG.out] at h8
          have hbt := HBT.out.1
          rw [HG.out] at hbt
          exact ⟨⟨i + 1, A ++ Bt, .slice a8 (i + 1) c8, by omega, rfl, by go_num, Lib.hid ⟨by rw [htk, List.map_append, List.flatMap_append, ← HI.out.1, hbt]; simp, by rw [List.length_append]; have := HDA.out; have := HBT.out.2; have := HL.out.2; omega, fun f hf => by
            rw [htk] at hf
            rcases List.mem_append.1 hf with h | h
            · exact HI.out.2.2.1 f h
            · rw [List.mem_singleton.1 h]; show data.length ≤ 10000; have := HDA.out; have := HL.out.1; omega, by rw [htk, List.map_append]; exact h8⟩⟩, by simp [intOf]; omega⟩
        · obtain rfl := hop
          have HG : Hid ((⟨fin, 0, 1, false, key0, data⟩ : Frm) = normF false ⟨fin, rsv, 1, mk, ⟨k0, k1, k2, k3⟩, data⟩) := Lib.hid (by unfold normF; rw [(show opN 1 = 1 from by decide)]; simp)
          obtain ⟨W6, hW6⟩ : ∃ W, W = wr.alloc (.cells #[.bool fin, .int .i64 0, .int .i64 1, .bool false, .int .u8 0, .int .u8 0, .int .u8 0, .int .u8 0, S (data)] 51) := ⟨_, rfl⟩
          have H6 : Hid (BkI w b b6 (b6 + 1) base (.slice a6 i c6) ((l.take i).map (normF false)) W6 ∧ Row W6 b9 #[.bool fin, .int .i64 0, .int .i64 1, .bool false, .int .u8 0, .int .u8 0, .int .u8 0, .int .u8 0, S (data)] 51) := Lib.hid (by
            have hal : Below wr.heap.size wr W6 := by rw [hW6]; exact (Below.refl _ _).alloc (Nat.le_refl _) _
            exact ⟨HI.out.2.2.2.below hal, by rw [hW6, HB9.out]; exact row_new _ _ _⟩)
          have HC := Lib.hid (HBy ⟨fin, 0, 1, false, key0, data⟩ W6 H6.out.1.bel (by have := HDA.out; have := HL.out.1; simp; omega))
          obtain ⟨Bt, hBt⟩ : ∃ y, y = bytesF ⟨fin, 0, 1, false, key0, data⟩ := ⟨_, rfl⟩
          have hv : bytesV ⟨fin, 0, 1, false, key0, data⟩ = .tuple #[S Bt, .int .i64 0] := by
            unfold bytesV
            rw [show okFr ⟨fin, 0, 1, false, key0, data⟩ = true from by rw [HG.out]; exact norm_ok _ _, if_pos rfl, if_pos rfl, hBt]
          rw [hv] at HC
          have HBT : Hid (Bt = bytesF ⟨fin, 0, 1, false, key0, data⟩ ∧ Bt.length ≤ 10014) := Lib.hid ⟨hBt, by rw [hBt]; have h := bytes_le ⟨fin, 0, 1, false, key0, data⟩; have := HDA.out; have := HL.out.1; simp at h; omega⟩
          clear hBt hv
          unfold frV frC at HC
          rw [hW6] at HC
          dsimp only at HC
          go_wp2_with fail
          refine HC.out.mono ?_
          rintro e W7 ⟨rfl, hB⟩
          rw [← hW6] at hB
          rw [← HB9.out]
          have H7 := Lib.hid (H6.out.1.below hB)
          have hr7 := H6.out.2.below hB H6.out.2.lt
          have t6 := cell_of_row W7 _ 0 _ _ (0, 0) H7.out.r6
          have e0 := cell_of_row W7 b9 0 _ _ (0, 0) hr7
          have e1 := cell_of_row W7 b9 1 _ _ (0, 0) hr7
          have e2 := cell_of_row W7 b9 2 _ _ (0, 0) hr7
          have e3 := cell_of_row W7 b9 3 _ _ (0, 0) hr7
          have e4 := cell_of_row W7 b9 4 _ _ (0, 0) hr7
          have e5 := cell_of_row W7 b9 5 _ _ (0, 0) hr7
          have e6 := cell_of_row W7 b9 6 _ _ (0, 0) hr7
          have e7 := cell_of_row W7 b9 7 _ _ (0, 0) hr7
          have e8 := cell_of_row W7 b9 8 _ _ (0, 0) hr7
          obtain ⟨a8, c8, W8, hrun, t8, u8, hb8⟩ := H7.out.add (by rw [HVS.out]; have := HNb.out; omega) ⟨fin, 0, 1, false, key0, data⟩
          rw [HVS.out] at hrun hb8
          unfold frC at hrun
          dsimp only at hrun
          have H8 := Lib.hid hb8
          have hadd : binOp .add 9 (S A) (S Bt) = pure (S (A ++ Bt)) := S_add 9 A Bt (by have := HDA.out; have := HBT.out; have := HL.out.2; omega)
          clear hB HC hW6 hb8 hr7 H6
          go_wp2_with (at_builtin; refine wpList_append_by rfl 48 48 (.tmp 79) (.tmp 81) rfl (.slice a6 i c6) (.slice (some ⟨W7.heap.size, 0, none⟩) 1 1) rfl rfl (.slice a8 (i + 1) c8) W8 hrun ?_)
          have htk : l.take (i + 1) = l.take i ++ [⟨fin, rsv, 1, mk, ⟨k0, k1, k2, k3⟩, data⟩] := by rw [List.take_add_one, HF.out]; rfl
          have h8 := H8.out
          rw [HG.out] at h8
          have hbt := HBT.out.1
          rw [HG.out] at hbt
          exact ⟨⟨i + 1, A ++ Bt, .slice a8 (i + 1) c8, by omega, rfl, by go_num, Lib.hid ⟨by rw [htk, List.map_append, List.flatMap_append, ← HI.out.1, hbt]; simp, by rw [List.length_append]; have := HDA.out; have := HBT.out.2; have := HL.out.2; omega, fun f hf => by
            rw [htk] at hf
            rcases List.mem_append.1 hf with h | h
            · exact HI.out.2.2.1 f h
            · rw [List.mem_singleton.1 h]; show data.length ≤ 10000; have := HDA.out; have := HL.out.1; omega, by rw [htk, List.map_append]; exact h8⟩⟩, by simp [intOf]; omega⟩
        · obtain rfl := hop
          have HG : Hid ((⟨fin, 0, 2, false, key0, data⟩ : Frm) = normF false ⟨fin, rsv, 2, mk, ⟨k0, k1, k2, k3⟩, data⟩) := Lib.hid (by unfold normF; rw [(show opN 2 = 2 from by decide)]; simp)
          obtain ⟨W6, hW6⟩ : ∃ W, W = wr.alloc (.cells #[.bool fin, .int .i64 0, .int .i64 2, .bool false, .int .u8 0, .int .u8 0, .int .u8 0, .int .u8 0, S (data)] 51) := ⟨_, rfl⟩
          have H6 : Hid (BkI w b b6 (b6 + 1) base (.slice a6 i c6) ((l.take i).map (normF false)) W6 ∧ Row W6 b9 #[.bool fin, .int .i64 0, .int .i64 2, .bool false, .int .u8 0, .int .u8 0, .int .u8 0, .int .u8 0, S (data)] 51) := Lib.hid (by
            have hal : Below wr.heap.size wr W6 := by rw [hW6]; exact (Below.refl _ _).alloc (Nat.le_refl _) _
            exact ⟨HI.out.2.2.2.below hal, by rw [hW6, HB9.out]; exact row_new _ _ _⟩)
          have HC := Lib.hid (HBy ⟨fin, 0, 2, false, key0, data⟩ W6 H6.out.1.bel (by have := HDA.out; have := HL.out.1; simp; omega))
          obtain ⟨Bt, hBt⟩ : ∃ y, y = bytesF ⟨fin, 0, 2, false, key0, data⟩ := ⟨_, rfl⟩
          have hv : bytesV ⟨fin, 0, 2, false, key0, data⟩ = .tuple #[S Bt, .int .i64 0] := by
            unfold bytesV
            rw [show okFr ⟨fin, 0, 2, false, key0, data⟩ = true from by rw [HG.out]; exact norm_ok _ _, if_pos rfl, if_pos rfl, hBt]
          rw [hv] at HC
          have HBT : Hid (Bt = bytesF ⟨fin, 0, 2, false, key0, data⟩ ∧ Bt.length ≤ 10014) := Lib.hid ⟨hBt, by rw [hBt]; have h := bytes_le ⟨fin, 0, 2, false, key0, data⟩; have := HDA.out; have := HL.out.1; simp at h; omega⟩
          clear hBt hv
          unfold frV frC at HC
          rw [hW6] at HC
          dsimp only at HC
          go_wp2_with fail
          refine HC.out.mono ?_
          rintro e W7 ⟨rfl, hB⟩
          rw [← hW6] at hB
          rw [← HB9.out]
          have H7 := Lib.hid (H6.out.1.below hB)
          have hr7 := H6.out.2.below hB H6.out.2.lt
          have t6 := cell_of_row W7 _ 0 _ _ (0, 0) H7.out.r6
          have e0 := cell_of_row W7 b9 0 _ _ (0, 0) hr7
          have e1 := cell_of_row W7 b9 1 _ _ (0, 0) hr7
          have e2 := cell_of_row W7 b9 2 _ _ (0, 0) hr7
          have e3 := cell_of_row W7 b9 3 _ _ (0, 0) hr7
          have e4 := cell_of_row W7 b9 4 _ _ (0, 0) hr7
          have e5 := cell_of_row W7 b9 5 _ _ (0, 0) hr7
          have e6 := cell_of_row W7 b9 6 _ _ (0, 0) hr7
          have e7 := cell_of_row W7 b9 7 _ _ (0, 0) hr7
          have e8 := cell_of_row W7 b9 8 _ _ (0, 0) hr7
          obtain ⟨a8, c8, W8, hrun, t8, u8, hb8⟩ := H7.out.add (by rw [HVS.out]; have := HNb.out; omega) ⟨fin, 0, 2, false, key0, data⟩
          rw [HVS.out] at hrun hb8
          unfold frC at hrun
          dsimp only at hrun
          have H8 := Lib.hid hb8
          have hadd : binOp .add 9 (S A) (S Bt) = pure (S (A ++ Bt)) := S_add 9 A Bt (by have := HDA.out; have := HBT.out; have := HL.out.2; omega)
          clear hB HC hW6 hb8 hr7 H6
          go_wp2_with (at_builtin; refine wpList_append_by rfl 48 48 (.tmp 79) (.tmp 81) rfl (.slice a6 i c6) (.slice (some ⟨W7.heap.size, 0, none⟩) 1 1) rfl rfl (.slice a8 (i + 1) c8) W8 hrun ?_)
          have htk : l.take (i + 1) = l.take i ++ [⟨fin, rsv, 2, mk, ⟨k0, k1, k2, k3⟩, data⟩] := by rw [List.take_add_one, HF.out]; rfl
          have h8 := H8.out
          rw [HG.out] at h8
          have hbt := HBT.out.1
          rw [HG.out] at hbt
          exact ⟨⟨i + 1, A ++ Bt, .slice a8 (i + 1) c8, by omega, rfl, by go_num, Lib.hid ⟨by rw [htk, List.map_append, List.flatMap_append, ← HI.out.1, hbt]; simp, by rw [List.length_append]; have := HDA.out; have := HBT.out.2; have := HL.out.2; omega, fun f hf => by
            rw [htk] at hf
            rcases List.mem_append.1 hf with h | h
            · exact HI.out.2.2.1 f h
            · rw [List.mem_singleton.1 h]; show data.length ≤ 10000; have := HDA.out; have := HL.out.1; omega, by rw [htk, List.map_append]; exact h8⟩⟩, by simp [intOf]; omega⟩
        · obtain rfl := hop
          by_cases h125 : DL ≤ 125
          · have hdt : data.take 125 = data := List.take_of_length_le (by have := HL.out.1; omega)
            have HDT := Lib.hid hdt
            have hsl : ∀ W, (Instr.slice 9 (S data) none (some (.int .i64 (DL : Int))) none).run Try.prog W = .ok (S data) W := fun W => by
              have h := slice_take (P := Try.prog) Try.underlying9 data DL (by rw [HL.out.1]; exact Nat.le_refl _) W
              rw [List.take_of_length_le (by rw [HL.out.1]; exact Nat.le_refl _)] at h
              exact h
            have g5 : decide ((125 : Int) < (DL : Int)) = false := decide_eq_false (by omega)
            have g6 : decide ((DL : Int) ≤ 125) = true := decide_eq_true (by omega)
            clear hdt
            have HG : Hid ((⟨true, 0, 8, false, key0, data⟩ : Frm) = normF false ⟨fin, rsv, 3, mk, ⟨k0, k1, k2, k3⟩, data⟩) := Lib.hid (by unfold normF; rw [(show opN 3 = 8 from by decide)]; simp [HDT.out])
            obtain ⟨W6, hW6⟩ : ∃ W, W = wr.alloc (.cells #[.bool true, .int .i64 0, .int .i64 8, .bool false, .int .u8 0, .int .u8 0, .int .u8 0, .int .u8 0, S (data)] 51) := ⟨_, rfl⟩
            have H6 : Hid (BkI w b b6 (b6 + 1) base (.slice a6 i c6) ((l.take i).map (normF false)) W6 ∧ Row W6 b9 #[.bool true, .int .i64 0, .int .i64 8, .bool false, .int .u8 0, .int .u8 0, .int .u8 0, .int .u8 0, S (data)] 51) := Lib.hid (by
              have hal : Below wr.heap.size wr W6 := by rw [hW6]; exact (Below.refl _ _).alloc (Nat.le_refl _) _
              exact ⟨HI.out.2.2.2.below hal, by rw [hW6, HB9.out]; exact row_new _ _ _⟩)
            have HC := Lib.hid (HBy ⟨true, 0, 8, false, key0, data⟩ W6 H6.out.1.bel (by have := HDA.out; have := HL.out.1; simp; omega))
            obtain ⟨Bt, hBt⟩ : ∃ y, y = bytesF ⟨true, 0, 8, false, key0, data⟩ := ⟨_, rfl⟩
            have hv : bytesV ⟨true, 0, 8, false, key0, data⟩ = .tuple #[S Bt, .int .i64 0] := by
              unfold bytesV
              rw [show okFr ⟨true, 0, 8, false, key0, data⟩ = true from by rw [HG.out]; exact norm_ok _ _, if_pos rfl, if_pos rfl, hBt]
            rw [hv] at HC
            have HBT : Hid (Bt = bytesF ⟨true, 0, 8, false, key0, data⟩ ∧ Bt.length ≤ 10014) := Lib.hid ⟨hBt, by rw [hBt]; have h := bytes_le ⟨true, 0, 8, false, key0, data⟩; have := HDA.out; have := HL.out.1; simp at h; omega⟩
            clear hBt hv
            unfold frV frC at HC
            rw [hW6] at HC
            dsimp only at HC
            go_wp2_with fail
            refine HC.out.mono ?_
            rintro e W7 ⟨rfl, hB⟩
            rw [← hW6] at hB
            rw [← HB9.out]
            have H7 := Lib.hid (H6.out.1.below hB)
            have hr7 := H6.out.2.below hB H6.out.2.lt
            have t6 := cell_of_row W7 _ 0 _ _ (0, 0) H7.out.r6
            have e0 := cell_of_row W7 b9 0 _ _ (0, 0) hr7
            have e1 := cell_of_row W7 b9 1 _ _ (0, 0) hr7
            have e2 := cell_of_row W7 b9 2 _ _ (0, 0) hr7
            have e3 := cell_of_row W7 b9 3 _ _ (0, 0) hr7
            have e4 := cell_of_row W7 b9 4 _ _ (0, 0) hr7
            have e5 := cell_of_row W7 b9 5 _ _ (0, 0) hr7
            have e6 := cell_of_row W7 b9 6 _ _ (0, 0) hr7
            have e7 := cell_of_row W7 b9 7 _ _ (0, 0) hr7
            have e8 := cell_of_row W7 b9 8 _ _ (0, 0) hr7
            obtain ⟨a8, c8, W8, hrun, t8, u8, hb8⟩ := H7.out.add (by rw [HVS.out]; have := HNb.out; omega) ⟨true, 0, 8, false, key0, data⟩
            rw [HVS.out] at hrun hb8
            unfold frC at hrun
            dsimp only at hrun
            have H8 := Lib.hid hb8
            have hadd : binOp .add 9 (S A) (S Bt) = pure (S (A ++ Bt)) := S_add 9 A Bt (by have := HDA.out; have := HBT.out; have := HL.out.2; omega)
            clear hB HC hW6 hb8 hr7 H6
            go_wp2_with (at_builtin; refine wpList_append_by rfl 48 48 (.tmp 79) (.tmp 81) rfl (.slice a6 i c6) (.slice (some ⟨W7.heap.size, 0, none⟩) 1 1) rfl rfl (.slice a8 (i + 1) c8) W8 hrun ?_)
            have htk : l.take (i + 1) = l.take i ++ [⟨fin, rsv, 3, mk, ⟨k0, k1, k2, k3⟩, data⟩] := by rw [List.take_add_one, HF.out]; rfl
            have h8 := H8.out
            rw [HG.out] at h8
            have hbt := HBT.out.1
            rw [HG.out] at hbt
            exact ⟨⟨i + 1, A ++ Bt, .slice a8 (i + 1) c8, by omega, rfl, by go_num, Lib.hid ⟨by rw [htk, List.map_append, List.flatMap_append, ← HI.out.1, hbt]; simp, by rw [List.length_append]; have := HDA.out; have := HBT.out.2; have := HL.out.2; omega, fun f hf => by
              rw [htk] at hf
              rcases List.mem_append.1 hf with h | h
              · exact HI.out.2.2.1 f h
              · rw [List.mem_singleton.1 h]; show data.length ≤ 10000; have := HDA.out; have := HL.out.1; omega, by rw [htk, List.map_append]; exact h8⟩⟩, by simp [intOf]; omega⟩
          · have hsl : ∀ W, (Instr.slice 9 (S data) none (some (.int .i64 125)) none).run Try.prog W = .ok (S (data.take 125)) W := fun W => slice_take (P := Try.prog) Try.underlying9 data 125 (by have := HL.out.1; omega) W
            have g5 : decide ((125 : Int) < (DL : Int)) = true := decide_eq_true (by omega)
            have g6 : decide ((DL : Int) ≤ 125) = false := decide_eq_false (by omega)
            have HG : Hid ((⟨true, 0, 8, false, key0, data.take 125⟩ : Frm) = normF false ⟨fin, rsv, 3, mk, ⟨k0, k1, k2, k3⟩, data⟩) := Lib.hid (by unfold normF; rw [(show opN 3 = 8 from by decide)]; simp)
            obtain ⟨W6, hW6⟩ : ∃ W, W = wr.alloc (.cells #[.bool true, .int .i64 0, .int .i64 8, .bool false, .int .u8 0, .int .u8 0, .int .u8 0, .int .u8 0, S (data.take 125)] 51) := ⟨_, rfl⟩
            have H6 : Hid (BkI w b b6 (b6 + 1) base (.slice a6 i c6) ((l.take i).map (normF false)) W6 ∧ Row W6 b9 #[.bool true, .int .i64 0, .int .i64 8, .bool false, .int .u8 0, .int .u8 0, .int .u8 0, .int .u8 0, S (data.take 125)] 51) := Lib.hid (by
              have hal : Below wr.heap.size wr W6 := by rw [hW6]; exact (Below.refl _ _).alloc (Nat.le_refl _) _
              exact ⟨HI.out.2.2.2.below hal, by rw [hW6, HB9.out]; exact row_new _ _ _⟩)
            have HC := Lib.hid (HBy ⟨true, 0, 8, false, key0, data.take 125⟩ W6 H6.out.1.bel (by have := HDA.out; have := HL.out.1; simp; omega))
            obtain ⟨Bt, hBt⟩ : ∃ y, y = bytesF ⟨true, 0, 8, false, key0, data.take 125⟩ := ⟨_, rfl⟩
            have hv : bytesV ⟨true, 0, 8, false, key0, data.take 125⟩ = .tuple #[S Bt, .int .i64 0] := by
              unfold bytesV
              rw [show okFr ⟨true, 0, 8, false, key0, data.take 125⟩ = true from by rw [HG.out]; exact norm_ok _ _, if_pos rfl, if_pos rfl, hBt]
            rw [hv] at HC
            have HBT : Hid (Bt = bytesF ⟨true, 0, 8, false, key0, data.take 125⟩ ∧ Bt.length ≤ 10014) := Lib.hid ⟨hBt, by rw [hBt]; have h := bytes_le ⟨true, 0, 8, false, key0, data.take 125⟩; have := HDA.out; have := HL.out.1; simp at h; omega⟩
            clear hBt hv
            unfold frV frC at HC
            rw [hW6] at HC
            dsimp only at HC
            go_wp2_with fail
            refine HC.out.mono ?_
            rintro e W7 ⟨rfl, hB⟩
            rw [← hW6] at hB
            rw [← HB9.out]
            have H7 := Lib.hid (H6.out.1.below hB)
            have hr7 := H6.out.2.below hB H6.out.2.lt
            have t6 := cell_of_row W7 _ 0 _ _ (0, 0) H7.out.r6
            have e0 := cell_of_row W7 b9 0 _ _ (0, 0) hr7
            have e1 := cell_of_row W7 b9 1 _ _ (0, 0) hr7
            have e2 := cell_of_row W7 b9 2 _ _ (0, 0) hr7
            have e3 := cell_of_row W7 b9 3 _ _ (0, 0) hr7
            have e4 := cell_of_row W7 b9 4 _ _ (0, 0) hr7
            have e5 := cell_of_row W7 b9 5 _ _ (0, 0) hr7
            have e6 := cell_of_row W7 b9 6 _ _ (0, 0) hr7
            have e7 := cell_of_row W7 b9 7 _ _ (0, 0) hr7
            have e8 := cell_of_row W7 b9 8 _ _ (0, 0) hr7
            obtain ⟨a8, c8, W8, hrun, t8, u8, hb8⟩ := H7.out.add (by rw [HVS.out]; have := HNb.out; omega) ⟨true, 0, 8, false, key0, data.take 125⟩
            rw [HVS.out] at hrun hb8
            unfold frC at hrun
            dsimp only at hrun
            have H8 := Lib.hid hb8
            have hadd : binOp .add 9 (S A) (S Bt) = pure (S (A ++ Bt)) := S_add 9 A Bt (by have := HDA.out; have := HBT.out; have := HL.out.2; omega)
            clear hB HC hW6 hb8 hr7 H6
            go_wp2_with (at_builtin; refine wpList_append_by rfl 48 48 (.tmp 79) (.tmp 81) rfl (.slice a6 i c6) (.slice (some ⟨W7.heap.size, 0, none⟩) 1 1) rfl rfl (.slice a8 (i + 1) c8) W8 hrun ?_)
            have htk : l.take (i + 1) = l.take i ++ [⟨fin, rsv, 3, mk, ⟨k0, k1, k2, k3⟩, data⟩] := by rw [List.take_add_one, HF.out]; rfl
            have h8 := H8.out
            rw [HG.out] at h8
            have hbt := HBT.out.1
            rw [HG.out] at hbt
            exact ⟨⟨i + 1, A ++ Bt, .slice a8 (i + 1) c8, by omega, rfl, by go_num, Lib.hid ⟨by rw [htk, List.map_append, List.flatMap_append, ← HI.out.1, hbt]; simp, by rw [List.length_append]; have := HDA.out; have := HBT.out.2; have := HL.out.2; omega, fun f hf => by
              rw [htk] at hf
              rcases List.mem_append.1 hf with h | h
              · exact HI.out.2.2.1 f h
              · rw [List.mem_singleton.1 h]; show data.length ≤ 10000; have := HDA.out; have := HL.out.1; omega, by rw [htk, List.map_append]; exact h8⟩⟩, by simp [intOf]; omega⟩
        · obtain rfl := hop
          by_cases h125 : DL ≤ 125
          · have hdt : data.take 125 = data := List.take_of_length_le (by have := HL.out.1; omega)
            have HDT := Lib.hid hdt
            have hsl : ∀ W, (Instr.slice 9 (S data) none (some (.int .i64 (DL : Int))) none).run Try.prog W = .ok (S data) W := fun W => by
              have h := slice_take (P := Try.prog) Try.underlying9 data DL (by rw [HL.out.1]; exact Nat.le_refl _) W
              rw [List.take_of_length_le (by rw [HL.out.1]; exact Nat.le_refl _)] at h
              exact h
            have g5 : decide ((125 : Int) < (DL : Int)) = false := decide_eq_false (by omega)
            have g6 : decide ((DL : Int) ≤ 125) = true := decide_eq_true (by omega)
            clear hdt
            have HG : Hid ((⟨true, 0, 9, false, key0, data⟩ : Frm) = normF false ⟨fin, rsv, 4, mk, ⟨k0, k1, k2, k3⟩, data⟩) := Lib.hid (by unfold normF; rw [(show opN 4 = 9 from by decide)]; simp [HDT.out])
            obtain ⟨W6, hW6⟩ : ∃ W, W = wr.alloc (.cells #[.bool true, .int .i64 0, .int .i64 9, .bool false, .int .u8 0, .int .u8 0, .int .u8 0, .int .u8 0, S (data)] 51) := ⟨_, rfl⟩
            have H6 : Hid (BkI w b b6 (b6 + 1) base (.slice a6 i c6) ((l.take i).map (normF false)) W6 ∧ Row W6 b9 #[.bool true, .int .i64 0, .int .i64 9, .bool false, .int .u8 0, .int .u8 0, .int .u8 0, .int .u8 0, S (data)] 51) := Lib.hid (by
              have hal : Below wr.heap.size wr W6 := by rw [hW6]; exact (Below.refl _ _).alloc (Nat.le_refl _) _
              exact ⟨HI.out.2.2.2.below hal, by rw [hW6, HB9.out]; exact row_new _ _ _⟩)
            have HC := Lib.hid (HBy ⟨true, 0, 9, false, key0, data⟩ W6 H6.out.1.bel (by have := HDA.out; have := HL.out.1; simp; omega))
            obtain ⟨Bt, hBt⟩ : ∃ y, y = bytesF ⟨true, 0, 9, false, key0, data⟩ := ⟨_, rfl⟩
            have hv : bytesV ⟨true, 0, 9, false, key0, data⟩ = .tuple #[S Bt, .int .i64 0] := by
              unfold bytesV
              rw [show okFr ⟨true, 0, 9, false, key0, data⟩ = true from by rw [HG.out]; exact norm_ok _ _, if_pos rfl, if_pos rfl, hBt]
            rw [hv] at HC
            have HBT : Hid (Bt = bytesF ⟨true, 0, 9, false, key0, data⟩ ∧ Bt.length ≤ 10014) := Lib.hid ⟨hBt, by rw [hBt]; have h := bytes_le ⟨true, 0, 9, false, key0, data⟩; have := HDA.out; have := HL.out.1; simp at h; omega⟩
            clear hBt hv
            unfold frV frC at HC
            rw [hW6] at HC
            dsimp only at HC
            go_wp2_with fail
            refine HC.out.mono ?_
            rintro e W7 ⟨rfl, hB⟩
            rw [← hW6] at hB
            rw [← HB9.out]
            have H7 := Lib.hid (H6.out.1.below hB)
            have hr7 := H6.out.2.below hB H6.out.2.lt
            have t6 := cell_of_row W7 _ 0 _ _ (0, 0) H7.out.r6
            have e0 := cell_of_row W7 b9 0 _ _ (0, 0) hr7
            have e1 := cell_of_row W7 b9 1 _ _ (0, 0) hr7
            have e2 := cell_of_row W7 b9 2 _ _ (0, 0) hr7
            have e3 := cell_of_row W7 b9 3 _ _ (0, 0) hr7
            have e4 := cell_of_row W7 b9 4 _ _ (0, 0) hr7
            have e5 := cell_of_row W7 b9 5 _ _ (0, 0) hr7
            have e6 := cell_of_row W7 b9 6 _ _ (0, 0) hr7
            have e7 := cell_of_row W7 b9 7 _ _ (0, 0) hr7
            have e8 := cell_of_row W7 b9 8 _ _ (0, 0) hr7
            obtain ⟨a8, c8, W8, hrun, t8, u8, hb8⟩ := H7.out.add (by rw [HVS.out]; have := HNb.out; omega) ⟨true, 0, 9, false, key0, data⟩
            rw [HVS.out] at hrun hb8
            unfold frC at hrun
            dsimp only at hrun
            have H8 := Lib.hid hb8
            have hadd : binOp .add 9 (S A) (S Bt) = pure (S (A ++ Bt)) := S_add 9 A Bt (by have := HDA.out; have := HBT.out; have := HL.out.2; omega)
            clear hB HC hW6 hb8 hr7 H6
            go_wp2_with (at_builtin; refine wpList_append_by rfl 48 48 (.tmp 79) (.tmp 81) rfl (.slice a6 i c6) (.slice (some ⟨W7.heap.size, 0, none⟩) 1 1) rfl rfl (.slice a8 (i + 1) c8) W8 hrun ?_)
            have htk : l.take (i + 1) = l.take i ++ [⟨fin, rsv, 4, mk, ⟨k0, k1, k2, k3⟩, data⟩] := by rw [List.take_add_one, HF.out]; rfl
            have h8 := H8.out
            rw [HG.out] at h8
            have hbt := HBT.out.1
            rw [HG.out] at hbt
            exact ⟨⟨i + 1, A ++ Bt, .slice a8 (i + 1) c8, by omega, rfl, by go_num, Lib.hid ⟨by rw [htk, List.map_append, List.flatMap_append, ← HI.out.1, hbt]; simp, by rw [List.length_append]; have := HDA.out; have := HBT.out.2; have := HL.out.2; omega, fun f hf => by
              rw [htk] at hf
              rcases List.mem_append.1 hf with h | h
              · exact HI.out.2.2.1 f h
              · rw [List.mem_singleton.1 h]; show data.length ≤ 10000; have := HDA.out; have := HL.out.1; omega, by rw [htk, List.map_append]; exact h8⟩⟩, by simp [intOf]; omega⟩
          · have hsl : ∀ W, (Instr.slice 9 (S data) none (some (.int .i64 125)) none).run Try.prog W = .ok (S (data.take 125)) W := fun W => slice_take (P := Try.prog) Try.underlying9 data 125 (by have := HL.out.1; omega) W
            have g5 : decide ((125 : Int) < (DL : Int)) = true := decide_eq_true (by omega)
            have g6 : decide ((DL : Int) ≤ 125) = false := decide_eq_false (by omega)
            have HG : Hid ((⟨true, 0, 9, false, key0, data.take 125⟩ : Frm) = normF false ⟨fin, rsv, 4, mk, ⟨k0, k1, k2, k3⟩, data⟩) := Lib.hid (by unfold normF; rw [(show opN 4 = 9 from by decide)]; simp)
            obtain ⟨W6, hW6⟩ : ∃ W, W = wr.alloc (.cells #[.bool true, .int .i64 0, .int .i64 9, .bool false, .int .u8 0, .int .u8 0, .int .u8 0, .int .u8 0, S (data.take 125)] 51) := ⟨_, rfl⟩
            have H6 : Hid (BkI w b b6 (b6 + 1) base (.slice a6 i c6) ((l.take i).map (normF false)) W6 ∧ Row W6 b9 #[.bool true, .int .i64 0, .int .i64 9, .bool false, .int .u8 0, .int .u8 0, .int .u8 0, .int .u8 0, S (data.take 125)] 51) := Lib.hid (by
              have hal : Below wr.heap.size wr W6 := by rw [hW6]; exact (Below.refl _ _).alloc (Nat.le_refl _) _
              exact ⟨HI.out.2.2.2.below hal, by rw [hW6, HB9.out]; exact row_new _ _ _⟩)
            have HC := Lib.hid (HBy ⟨true, 0, 9, false, key0, data.take 125⟩ W6 H6.out.1.bel (by have := HDA.out; have := HL.out.1; simp; omega))
            obtain ⟨Bt, hBt⟩ : ∃ y, y = bytesF ⟨true, 0, 9, false, key0, data.take 125⟩ := ⟨_, rfl⟩
            have hv : bytesV ⟨true, 0, 9, false, key0, data.take 125⟩ = .tuple #[S Bt, .int .i64 0] := by
              unfold bytesV
              rw [show okFr ⟨true, 0, 9, false, key0, data.take 125⟩ = true from by rw [HG.out]; exact norm_ok _ _, if_pos rfl, if_pos rfl, hBt]
            rw [hv] at HC
            have HBT : Hid (Bt = bytesF ⟨true, 0, 9, false, key0, data.take 125⟩ ∧ Bt.length ≤ 10014) := Lib.hid ⟨hBt, by rw [hBt]; have h := bytes_le ⟨true, 0, 9, false, key0, data.take 125⟩; have := HDA.out; have := HL.out.1; simp at h; omega⟩
            clear hBt hv
            unfold frV frC at HC
            rw [hW6] at HC
            dsimp only at HC
            go_wp2_with fail
            refine HC.out.mono ?_
            rintro e W7 ⟨rfl, hB⟩
            rw [← hW6] at hB
            rw [← HB9.out]
            have H7 := Lib.hid (H6.out.1.below hB)
            have hr7 := H6.out.2.below hB H6.out.2.lt
            have t6 := cell_of_row W7 _ 0 _ _ (0, 0) H7.out.r6
            have e0 := cell_of_row W7 b9 0 _ _ (0, 0) hr7
            have e1 := cell_of_row W7 b9 1 _ _ (0, 0) hr7
            have e2 := cell_of_row W7 b9 2 _ _ (0, 0) hr7
            have e3 := cell_of_row W7 b9 3 _ _ (0, 0) hr7
            have e4 := cell_of_row W7 b9 4 _ _ (0, 0) hr7
            have e5 := cell_of_row W7 b9 5 _ _ (0, 0) hr7
            have e6 := cell_of_row W7 b9 6 _ _ (0, 0) hr7
            have e7 := cell_of_row W7 b9 7 _ _ (0, 0) hr7
            have e8 := cell_of_row W7 b9 8 _ _ (0, 0) hr7
            obtain ⟨a8, c8, W8, hrun, t8, u8, hb8⟩ := H7.out.add (by rw [HVS.out]; have := HNb.out; omega) ⟨true, 0, 9, false, key0, data.take 125⟩
            rw [HVS.out] at hrun hb8
            unfold frC at hrun
            dsimp only at hrun
            have H8 := Lib.hid hb8
            have hadd : binOp .add 9 (S A) (S Bt) = pure (S (A ++ Bt)) := S_add 9 A Bt (by have := HDA.out; have := HBT.out; have := HL.out.2; omega)
            clear hB HC hW6 hb8 hr7 H6
            go_wp2_with (at_builtin; refine wpList_append_by rfl 48 48 (.tmp 79) (.tmp 81) rfl (.slice a6 i c6) (.slice (some ⟨W7.heap.size, 0, none⟩) 1 1) rfl rfl (.slice a8 (i + 1) c8) W8 hrun ?_)
            have htk : l.take (i + 1) = l.take i ++ [⟨fin, rsv, 4, mk, ⟨k0, k1, k2, k3⟩, data⟩] := by rw [List.take_add_one, HF.out]; rfl
            have h8 := H8.out
            rw [HG.out] at h8
            have hbt := HBT.out.1
            rw [HG.out] at hbt
            exact ⟨⟨i + 1, A ++ Bt, .slice a8 (i + 1) c8, by omega, rfl, by go_num, Lib.hid ⟨by rw [htk, List.map_append, List.flatMap_append, ← HI.out.1, hbt]; simp, by rw [List.length_append]; have := HDA.out; have := HBT.out.2; have := HL.out.2; omega, fun f hf => by
              rw [htk] at hf
              rcases List.mem_append.1 hf with h | h
              · exact HI.out.2.2.1 f h
              · rw [List.mem_singleton.1 h]; show data.length ≤ 10000; have := HDA.out; have := HL.out.1; omega, by rw [htk, List.map_append]; exact h8⟩⟩, by simp [intOf]; omega⟩
        · obtain rfl := hop
          by_cases h125 : DL ≤ 125
          · have hdt : data.take 125 = data := List.take_of_length_le (by have := HL.out.1; omega)
            have HDT := Lib.hid hdt
            have hsl : ∀ W, (Instr.slice 9 (S data) none (some (.int .i64 (DL : Int))) none).run Try.prog W = .ok (S data) W := fun W => by
              have h := slice_take (P := Try.prog) Try.underlying9 data DL (by rw [HL.out.1]; exact Nat.le_refl _) W
              rw [List.take_of_length_le (by rw [HL.out.1]; exact Nat.le_refl _)] at h
              exact h
            have g5 : decide ((125 : Int) < (DL : Int)) = false := decide_eq_false (by omega)
            have g6 : decide ((DL : Int) ≤ 125) = true := decide_eq_true (by omega)
            clear hdt
            have HG : Hid ((⟨true, 0, 10, false, key0, data⟩ : Frm) = normF false ⟨fin, rsv, 5, mk, ⟨k0, k1, k2, k3⟩, data⟩) := Lib.hid (by unfold normF; rw [(show opN 5 = 10 from by decide)]; simp [HDT.out])
            obtain ⟨W6, hW6⟩ : ∃ W, W = wr.alloc (.cells #[.bool true, .int .i64 0, .int .i64 10, .bool false, .int .u8 0, .int .u8 0, .int .u8 0, .int .u8 0, S (data)] 51) := ⟨_, rfl⟩
            have H6 : Hid (BkI w b b6 (b6 + 1) base (.slice a6 i c6) ((l.take i).map (normF false)) W6 ∧ Row W6 b9 #[.bool true, .int .i64 0, .int .i64 10, .bool false, .int .u8 0, .int .u8 0, .int .u8 0, .int .u8 0, S (data)] 51) := Lib.hid (by
              have hal : Below wr.heap.size wr W6 := by rw [hW6]; exact (Below.refl _ _).alloc (Nat.le_refl _) _
              exact ⟨HI.out.2.2.2.below hal, by rw [hW6, HB9.out]; exact row_new _ _ _⟩)
            have HC := Lib.hid (HBy ⟨true, 0, 10, false, key0, data⟩ W6 H6.out.1.bel (by have := HDA.out; have := HL.out.1; simp; omega))
            obtain ⟨Bt, hBt⟩ : ∃ y, y = bytesF ⟨true, 0, 10, false, key0, data⟩ := ⟨_, rfl⟩
            have hv : bytesV ⟨true, 0, 10, false, key0, data⟩ = .tuple #[S Bt, .int .i64 0] := by
              unfold bytesV
              rw [show okFr ⟨true, 0, 10, false, key0, data⟩ = true from by rw [HG.out]; exact norm_ok _ _, if_pos rfl, if_pos rfl, hBt]
            rw [hv] at HC
            have HBT : Hid (Bt = bytesF ⟨true, 0, 10, false, key0, data⟩ ∧ Bt.length ≤ 10014) := Lib.hid ⟨hBt, by rw [hBt]; have h := bytes_le ⟨true, 0, 10, false, key0, data⟩; have := HDA.out; have := HL.out.1; simp at h; omega⟩
            clear hBt hv
            unfold frV frC at HC
            rw [hW6] at HC
            dsimp only at HC
            go_wp2_with fail
            refine HC.out.mono ?_
            rintro e W7 ⟨rfl, hB⟩
            rw [← hW6] at hB
            rw [← HB9.out]
            have H7 := Lib.hid (H6.out.1.below hB)
            have hr7 := H6.out.2.below hB H6.out.2.lt
            have t6 := cell_of_row W7 _ 0 _ _ (0, 0) H7.out.r6
            have e0 := cell_of_row W7 b9 0 _ _ (0, 0) hr7
            have e1 := cell_of_row W7 b9 1 _ _ (0, 0) hr7
            have e2 := cell_of_row W7 b9 2 _ _ (0, 0) hr7
            have e3 := cell_of_row W7 b9 3 _ _ (0, 0) hr7
            have e4 := cell_of_row W7 b9 4 _ _ (0, 0) hr7
            have e5 := cell_of_row W7 b9 5 _ _ (0, 0) hr7
            have e6 := cell_of_row W7 b9 6 _ _ (0, 0) hr7
            have e7 := cell_of_row W7 b9 7 _ _ (0, 0) hr7
            have e8 := cell_of_row W7 b9 8 _ _ (0, 0) hr7
            obtain ⟨a8, c8, W8, hrun, t8, u8, hb8⟩ := H7.out.add (by rw [HVS.out]; have := HNb.out; omega) ⟨true, 0, 10, false, key0, data⟩
            rw [HVS.out] at hrun hb8
            unfold frC at hrun
            dsimp only at hrun
            have H8 := Lib.hid hb8
            have hadd : binOp .add 9 (S A) (S Bt) = pure (S (A ++ Bt)) := S_add 9 A Bt (by have := HDA.out; have := HBT.out; have := HL.out.2; omega)
            clear hB HC hW6 hb8 hr7 H6
            go_wp2_with (at_builtin; refine wpList_append_by rfl 48 48 (.tmp 79) (.tmp 81) rfl (.slice a6 i c6) (.slice (some ⟨W7.heap.size, 0, none⟩) 1 1) rfl rfl (.slice a8 (i + 1) c8) W8 hrun ?_)
            have htk : l.take (i + 1) = l.take i ++ [⟨fin, rsv, 5, mk, ⟨k0, k1, k2, k3⟩, data⟩] := by rw [List.take_add_one, HF.out]; rfl
            have h8 := H8.out
            rw [HG.out] at h8
            have hbt := HBT.out.1
            rw [HG.out] at hbt
            exact ⟨⟨i + 1, A ++ Bt, .slice a8 (i + 1) c8, by omega, rfl, by go_num, Lib.hid ⟨by rw [htk, List.map_append, List.flatMap_append, ← HI.out.1, hbt]; simp, by rw [List.length_append]; have := HDA.out; have := HBT.out.2; have := HL.out.2; omega, fun f hf => by
              rw [htk] at hf
              rcases List.mem_append.1 hf with h | h
              · exact HI.out.2.2.1 f h
              · rw [List.mem_singleton.1 h]; show data.length ≤ 10000; have := HDA.out; have := HL.out.1; omega, by rw [htk, List.map_append]; exact h8⟩⟩, by simp [intOf]; omega⟩
          · have hsl : ∀ W, (Instr.slice 9 (S data) none (some (.int .i64 125)) none).run Try.prog W = .ok (S (data.take 125)) W := fun W => slice_take (P := Try.prog) Try.underlying9 data 125 (by have := HL.out.1; omega) W
            have g5 : decide ((125 : Int) < (DL : Int)) = true := decide_eq_true (by omega)
            have g6 : decide ((DL : Int) ≤ 125) = false := decide_eq_false (by omega)
            have HG : Hid ((⟨true, 0, 10, false, key0, data.take 125⟩ : Frm) = normF false ⟨fin, rsv, 5, mk, ⟨k0, k1, k2, k3⟩, data⟩) := Lib.hid (by unfold normF; rw [(show opN 5 = 10 from by decide)]; simp)
            obtain ⟨W6, hW6⟩ : ∃ W, W = wr.alloc (.cells #[.bool true, .int .i64 0, .int .i64 10, .bool false, .int .u8 0, .int .u8 0, .int .u8 0, .int .u8 0, S (data.take 125)] 51) := ⟨_, rfl⟩
            have H6 : Hid (BkI w b b6 (b6 + 1) base (.slice a6 i c6) ((l.take i).map (normF false)) W6 ∧ Row W6 b9 #[.bool true, .int .i64 0, .int .i64 10, .bool false, .int .u8 0, .int .u8 0, .int .u8 0, .int .u8 0, S (data.take 125)] 51) := Lib.hid (by
              have hal : Below wr.heap.size wr W6 := by rw [hW6]; exact (Below.refl _ _).alloc (Nat.le_refl _) _
              exact ⟨HI.out.2.2.2.below hal, by rw [hW6, HB9.out]; exact row_new _ _ _⟩)
            have HC := Lib.hid (HBy ⟨true, 0, 10, false, key0, data.take 125⟩ W6 H6.out.1.bel (by have := HDA.out; have := HL.out.1; simp; omega))
            obtain ⟨Bt, hBt⟩ : ∃ y, y = bytesF ⟨true, 0, 10, false, key0, data.take 125⟩ := ⟨_, rfl⟩
            have hv : bytesV ⟨true, 0, 10, false, key0, data.take 125⟩ = .tuple #[S Bt, .int .i64 0] := by
              unfold bytesV
              rw [show okFr ⟨true, 0, 10, false, key0, data.take 125⟩ = true from by rw [HG.out]; exact norm_ok _ _, if_pos rfl, if_pos rfl, hBt]
            rw [hv] at HC
            have HBT : Hid (Bt = bytesF ⟨true, 0, 10, false, key0, data.take 125⟩ ∧ Bt.length ≤ 10014) := Lib.hid ⟨hBt, by rw [hBt]; have h := bytes_le ⟨true, 0, 10, false, key0, data.take 125⟩; have := HDA.out; have := HL.out.1; simp at h; omega⟩
            clear hBt hv
            unfold frV frC at HC
            rw [hW6] at HC
            dsimp only at HC
            go_wp2_with fail
            refine HC.out.mono ?_
            rintro e W7 ⟨rfl, hB⟩
            rw [← hW6] at hB
            rw [← HB9.out]
            have H7 := Lib.hid (H6.out.1.below hB)
            have hr7 := H6.out.2.below hB H6.out.2.lt
            have t6 := cell_of_row W7 _ 0 _ _ (0, 0) H7.out.r6
            have e0 := cell_of_row W7 b9 0 _ _ (0, 0) hr7
            have e1 := cell_of_row W7 b9 1 _ _ (0, 0) hr7
            have e2 := cell_of_row W7 b9 2 _ _ (0, 0) hr7
            have e3 := cell_of_row W7 b9 3 _ _ (0, 0) hr7
            have e4 := cell_of_row W7 b9 4 _ _ (0, 0) hr7
            have e5 := cell_of_row W7 b9 5 _ _ (0, 0) hr7
            have e6 := cell_of_row W7 b9 6 _ _ (0, 0) hr7
            have e7 := cell_of_row W7 b9 7 _ _ (0, 0) hr7
            have e8 := cell_of_row W7 b9 8 _ _ (0, 0) hr7
            obtain ⟨a8, c8, W8, hrun, t8, u8, hb8⟩ := H7.out.add (by rw [HVS.out]; have := HNb.out; omega) ⟨true, 0, 10, false, key0, data.take 125⟩
            rw [HVS.out] at hrun hb8
            unfold frC at hrun
            dsimp only at hrun
            have H8 := Lib.hid hb8
            have hadd : binOp .add 9 (S A) (S Bt) = pure (S (A ++ Bt)) := S_add 9 A Bt (by have := HDA.out; have := HBT.out; have := HL.out.2; omega)
            clear hB HC hW6 hb8 hr7 H6
            go_wp2_with (at_builtin; refine wpList_append_by rfl 48 48 (.tmp 79) (.tmp 81) rfl (.slice a6 i c6) (.slice (some ⟨W7.heap.size, 0, none⟩) 1 1) rfl rfl (.slice a8 (i + 1) c8) W8 hrun ?_)
            have htk : l.take (i + 1) = l.take i ++ [⟨fin, rsv, 5, mk, ⟨k0, k1, k2, k3⟩, data⟩] := by rw [List.take_add_one, HF.out]; rfl
            have h8 := H8.out
            rw [HG.out] at h8
            have hbt := HBT.out.1
            rw [HG.out] at hbt
            exact ⟨⟨i + 1, A ++ Bt, .slice a8 (i + 1) c8, by omega, rfl, by go_num, Lib.hid ⟨by rw [htk, List.map_append, List.flatMap_append, ← HI.out.1, hbt]; simp, by rw [List.length_append]; have := HDA.out; have := HBT.out.2; have := HL.out.2; omega, fun f hf => by
              rw [htk] at hf
              rcases List.mem_append.1 hf with h | h
              · exact HI.out.2.2.1 f h
              · rw [List.mem_singleton.1 h]; show data.length ≤ 10000; have := HDA.out; have := HL.out.1; omega, by rw [htk, List.map_append]; exact h8⟩⟩, by simp [intOf]; omega⟩
        · have hop1 : ¬ (op ≤ 5) := by omega
          have hop2 : decide (op ≤ 5) = false := decide_eq_false hop1
          have hop3 : 0 ≤ op := by omega
          have hop4 : 5 ≤ op := by omega
          have HOP : Hid (opN op = 10) := Lib.hid (opN_high op (by omega))
          by_cases h125 : DL ≤ 125
          · have hdt : data.take 125 = data := List.take_of_length_le (by have := HL.out.1; omega)
            have HDT := Lib.hid hdt
            have hsl : ∀ W, (Instr.slice 9 (S data) none (some (.int .i64 (DL : Int))) none).run Try.prog W = .ok (S data) W := fun W => by
              have h := slice_take (P := Try.prog) Try.underlying9 data DL (by rw [HL.out.1]; exact Nat.le_refl _) W
              rw [List.take_of_length_le (by rw [HL.out.1]; exact Nat.le_refl _)] at h
              exact h
            have g5 : decide ((125 : Int) < (DL : Int)) = false := decide_eq_false (by omega)
            have g6 : decide ((DL : Int) ≤ 125) = true := decide_eq_true (by omega)
            clear hdt
            have HG : Hid ((⟨true, 0, 10, false, key0, data⟩ : Frm) = normF false ⟨fin, rsv, op, mk, ⟨k0, k1, k2, k3⟩, data⟩) := Lib.hid (by unfold normF; rw [HOP.out]; simp [HDT.out])
            obtain ⟨W6, hW6⟩ : ∃ W, W = wr.alloc (.cells #[.bool true, .int .i64 0, .int .i64 10, .bool false, .int .u8 0, .int .u8 0, .int .u8 0, .int .u8 0, S (data)] 51) := ⟨_, rfl⟩
            have H6 : Hid (BkI w b b6 (b6 + 1) base (.slice a6 i c6) ((l.take i).map (normF false)) W6 ∧ Row W6 b9 #[.bool true, .int .i64 0, .int .i64 10, .bool false, .int .u8 0, .int .u8 0, .int .u8 0, .int .u8 0, S (data)] 51) := Lib.hid (by
              have hal : Below wr.heap.size wr W6 := by rw [hW6]; exact (Below.refl _ _).alloc (Nat.le_refl _) _
              exact ⟨HI.out.2.2.2.below hal, by rw [hW6, HB9.out]; exact row_new _ _ _⟩)
            have HC := Lib.hid (HBy ⟨true, 0, 10, false, key0, data⟩ W6 H6.out.1.bel (by have := HDA.out; have := HL.out.1; simp; omega))
            obtain ⟨Bt, hBt⟩ : ∃ y, y = bytesF ⟨true, 0, 10, false, key0, data⟩ := ⟨_, rfl⟩
            have hv : bytesV ⟨true, 0, 10, false, key0, data⟩ = .tuple #[S Bt, .int .i64 0] := by
              unfold bytesV
              rw [show okFr ⟨true, 0, 10, false, key0, data⟩ = true from by rw [HG.out]; exact norm_ok _ _, if_pos rfl, if_pos rfl, hBt]
            rw [hv] at HC
            have HBT : Hid (Bt = bytesF ⟨true, 0, 10, false, key0, data⟩ ∧ Bt.length ≤ 10014) := Lib.hid ⟨hBt, by rw [hBt]; have h := bytes_le ⟨true, 0, 10, false, key0, data⟩; have := HDA.out; have := HL.out.1; simp at h; omega⟩
            clear hBt hv
            unfold frV frC at HC
            rw [hW6] at HC
            dsimp only at HC
            go_wp2_with fail
            refine HC.out.mono ?_
            rintro e W7 ⟨rfl, hB⟩
            rw [← hW6] at hB
            rw [← HB9.out]
            have H7 := Lib.hid (H6.out.1.below hB)
            have hr7 := H6.out.2.below hB H6.out.2.lt
            have t6 := cell_of_row W7 _ 0 _ _ (0, 0) H7.out.r6
            have e0 := cell_of_row W7 b9 0 _ _ (0, 0) hr7
            have e1 := cell_of_row W7 b9 1 _ _ (0, 0) hr7
            have e2 := cell_of_row W7 b9 2 _ _ (0, 0) hr7
            have e3 := cell_of_row W7 b9 3 _ _ (0, 0) hr7
            have e4 := cell_of_row W7 b9 4 _ _ (0, 0) hr7
            have e5 := cell_of_row W7 b9 5 _ _ (0, 0) hr7
            have e6 := cell_of_row W7 b9 6 _ _ (0, 0) hr7
            have e7 := cell_of_row W7 b9 7 _ _ (0, 0) hr7
            have e8 := cell_of_row W7 b9 8 _ _ (0, 0) hr7
            obtain ⟨a8, c8, W8, hrun, t8, u8, hb8⟩ := H7.out.add (by rw [HVS.out]; have := HNb.out; omega) ⟨true, 0, 10, false, key0, data⟩
            rw [HVS.out] at hrun hb8
            unfold frC at hrun
            dsimp only at hrun
            have H8 := Lib.hid hb8
            have hadd : binOp .add 9 (S A) (S Bt) = pure (S (A ++ Bt)) := S_add 9 A Bt (by have := HDA.out; have := HBT.out; have := HL.out.2; omega)
            clear hB HC hW6 hb8 hr7 H6
            go_wp2_with (at_builtin; refine wpList_append_by rfl 48 48 (.tmp 79) (.tmp 81) rfl (.slice a6 i c6) (.slice (some ⟨W7.heap.size, 0, none⟩) 1 1) rfl rfl (.slice a8 (i + 1) c8) W8 hrun ?_)
            have htk : l.take (i + 1) = l.take i ++ [⟨fin, rsv, op, mk, ⟨k0, k1, k2, k3⟩, data⟩] := by rw [List.take_add_one, HF.out]; rfl
            have h8 := H8.out
            rw [HG.out] at h8
            have hbt := HBT.out.1
            rw [HG.out] at hbt
            exact ⟨⟨i + 1, A ++ Bt, .slice a8 (i + 1) c8, by omega, rfl, by go_num, Lib.hid ⟨by rw [htk, List.map_append, List.flatMap_append, ← HI.out.1, hbt]; simp, by rw [List.length_append]; have := HDA.out; have := HBT.out.2; have := HL.out.2; omega, fun f hf => by
              rw [htk] at hf
              rcases List.mem_append.1 hf with h | h
              · exact HI.out.2.2.1 f h
              · rw [List.mem_singleton.1 h]; show data.length ≤ 10000; have := HDA.out; have := HL.out.1; omega, by rw [htk, List.map_append]; exact h8⟩⟩, by simp [intOf]; omega⟩
          · have hsl : ∀ W, (Instr.slice 9 (S data) none (some (.int .i64 125)) none).run Try.prog W = .ok (S (data.take 125)) W := fun W => slice_take (P := Try.prog) Try.underlying9 data 125 (by have := HL.out.1; omega) W
            have g5 : decide ((125 : Int) < (DL : Int)) = true := decide_eq_true (by omega)
            have g6 : decide ((DL : Int) ≤ 125) = false := decide_eq_false (by omega)
            have HG : Hid ((⟨true, 0, 10, false, key0, data.take 125⟩ : Frm) = normF false ⟨fin, rsv, op, mk, ⟨k0, k1, k2, k3⟩, data⟩) := Lib.hid (by unfold normF; rw [HOP.out]; simp)
            obtain ⟨W6, hW6⟩ : ∃ W, W = wr.alloc (.cells #[.bool true, .int .i64 0, .int .i64 10, .bool false, .int .u8 0, .int .u8 0, .int .u8 0, .int .u8 0, S (data.take 125)] 51) := ⟨_, rfl⟩
            have H6 : Hid (BkI w b b6 (b6 + 1) base (.slice a6 i c6) ((l.take i).map (normF false)) W6 ∧ Row W6 b9 #[.bool true, .int .i64 0, .int .i64 10, .bool false, .int .u8 0, .int .u8 0, .int .u8 0, .int .u8 0, S (data.take 125)] 51) := Lib.hid (by
              have hal : Below wr.heap.size wr W6 := by rw [hW6]; exact (Below.refl _ _).alloc (Nat.le_refl _) _
              exact ⟨HI.out.2.2.2.below hal, by rw [hW6, HB9.out]; exact row_new _ _ _⟩)
            have HC := Lib.hid (HBy ⟨true, 0, 10, false, key0, data.take 125⟩ W6 H6.out.1.bel (by have := HDA.out; have := HL.out.1; simp; omega))
            obtain ⟨Bt, hBt⟩ : ∃ y, y = bytesF ⟨true, 0, 10, false, key0, data.take 125⟩ := ⟨_, rfl⟩
            have hv : bytesV ⟨true, 0, 10, false, key0, data.take 125⟩ = .tuple #[S Bt, .int .i64 0] := by
              unfold bytesV
              rw [show okFr ⟨true, 0, 10, false, key0, data.take 125⟩ = true from by rw [HG.out]; exact norm_ok _ _, if_pos rfl, if_pos rfl, hBt]
            rw [hv] at HC
            have HBT : Hid (Bt = bytesF ⟨true, 0, 10, false, key0, data.take 125⟩ ∧ Bt.length ≤ 10014) := Lib.hid ⟨hBt, by rw [hBt]; have h := bytes_le ⟨true, 0, 10, false, key0, data.take 125⟩; have := HDA.out; have := HL.out.1; simp at h; omega⟩
            clear hBt hv
            unfold frV frC at HC
            rw [hW6] at HC
            dsimp only at HC
            go_wp2_with fail
            refine HC.out.mono ?_
            rintro e W7 ⟨rfl, hB⟩
            rw [← hW6] at hB
            rw [← HB9.out]
            have H7 := Lib.hid (H6.out.1.below hB)
            have hr7 := H6.out.2.below hB H6.out.2.lt
            have t6 := cell_of_row W7 _ 0 _ _ (0, 0) H7.out.r6
            have e0 := cell_of_row W7 b9 0 _ _ (0, 0) hr7
            have e1 := cell_of_row W7 b9 1 _ _ (0, 0) hr7
            have e2 := cell_of_row W7 b9 2 _ _ (0, 0) hr7
            have e3 := cell_of_row W7 b9 3 _ _ (0, 0) hr7
            have e4 := cell_of_row W7 b9 4 _ _ (0, 0) hr7
            have e5 := cell_of_row W7 b9 5 _ _ (0, 0) hr7
            have e6 := cell_of_row W7 b9 6 _ _ (0, 0) hr7
            have e7 := cell_of_row W7 b9 7 _ _ (0, 0) hr7
            have e8 := cell_of_row W7 b9 8 _ _ (0, 0) hr7
            obtain ⟨a8, c8, W8, hrun, t8, u8, hb8⟩ := H7.out.add (by rw [HVS.out]; have := HNb.out; omega) ⟨true, 0, 10, false, key0, data.take 125⟩
            rw [HVS.out] at hrun hb8
            unfold frC at hrun
            dsimp only at hrun
            have H8 := Lib.hid hb8
            have hadd : binOp .add 9 (S A) (S Bt) = pure (S (A ++ Bt)) := S_add 9 A Bt (by have := HDA.out; have := HBT.out; have := HL.out.2; omega)
            clear hB HC hW6 hb8 hr7 H6
            go_wp2_with (at_builtin; refine wpList_append_by rfl 48 48 (.tmp 79) (.tmp 81) rfl (.slice a6 i c6) (.slice (some ⟨W7.heap.size, 0, none⟩) 1 1) rfl rfl (.slice a8 (i + 1) c8) W8 hrun ?_)
            have htk : l.take (i + 1) = l.take i ++ [⟨fin, rsv, op, mk, ⟨k0, k1, k2, k3⟩, data⟩] := by rw [List.take_add_one, HF.out]; rfl
            have h8 := H8.out
            rw [HG.out] at h8
            have hbt := HBT.out.1
            rw [HG.out] at hbt
            exact ⟨⟨i + 1, A ++ Bt, .slice a8 (i + 1) c8, by omega, rfl, by go_num, Lib.hid ⟨by rw [htk, List.map_append, List.flatMap_append, ← HI.out.1, hbt]; simp, by rw [List.length_append]; have := HDA.out; have := HBT.out.2; have := HL.out.2; omega, fun f hf => by
              rw [htk] at hf
              rcases List.mem_append.1 hf with h | h
              · exact HI.out.2.2.1 f h
              · rw [List.mem_singleton.1 h]; show data.length ≤ 10000; have := HDA.out; have := HL.out.1; omega, by rw [htk, List.map_append]; exact h8⟩⟩, by simp [intOf]; omega⟩
    · have hiN : i = N := by omega
      have g2n : decide (i < N) = false := decide_eq_false hlt
      have g2 : decide ((i : Int) < (N : Int)) = false := decide_eq_false (by omega)
      have htk : l.take i = l := by rw [hiN, HV.out.2, List.take_length]
      obtain ⟨L, hL⟩ : ∃ L, L = l.map (normF m) := ⟨_, rfl⟩
      have hLn : L.length = N := by rw [hL, List.length_map, ← HV.out.2]
      rw [htk, ← hL] at HI
      have hfs : ∀ f ∈ L, okFr f = true ∧ f.data.length < 256 ^ 8 ∧ mayF (hdOf f) m = true := fun f hf => by
        rw [hL] at hf
        obtain ⟨f0, h0, rfl⟩ := List.mem_map.1 hf
        have h1 := HI.out.2.2.1 f0 h0
        have h2 := norm_len m f0
        exact ⟨norm_ok m f0, by omega, norm_may m f0 (by omega)⟩
      have hop : ∀ f ∈ L, (f.op.toNat : Int) = f.op := fun f hf => by
        rw [hL] at hf
        obtain ⟨f0, h0, rfl⟩ := List.mem_map.1 hf
        show (((opN f0.op : Nat) : Int).toNat : Int) = _
        rw [Int.toNat_natCast]; rfl
      have hdl : ∀ f ∈ L, f.data.length ≤ 10000 := fun f hf => by
        rw [hL] at hf
        obtain ⟨f0, h0, rfl⟩ := List.mem_map.1 hf
        have h1 := HI.out.2.2.1 f0 h0
        have h2 := norm_len m f0
        omega
      obtain ⟨hall, hend⟩ := back_all m L hfs
      rw [← HI.out.1] at hall hend
      have HLL := Lib.hid (And.intro hall (And.intro hend (And.intro hLn (And.intro hop hdl))))
      have HB0 := Lib.hid (And.intro HI.out.2.1 HI.out.2.2.2)
      clear hiN htk hL hLn hfs hop hdl hall hend HI hlt hi
      obtain ⟨a6, c6, hvs⟩ : ∃ a c, Vs = .slice a N c := by
        obtain ⟨a, c, h, -⟩ := HB0.out.2.sent.form
        rw [HLL.out.2.2.1] at h
        exact ⟨a, c, h⟩
      subst hvs
      have HC := Lib.hid (C.new m wr HB0.out.2.bel)
      go_wp2_with fail
      refine HC.out.mono ?_
      rintro e W5 ⟨g, F5, rfl, hR, hF, hB⟩
      have hbs := HB0.out.2.bel.size
      have H5 : Hid (AtR RA w W5 F5 g (fresh16 m) ∧ BkI w b b6 (b6 + 1) base (.slice a6 N c6) L W5 ∧ ∀ k, F5 k → wr.heap.size ≤ k) := Lib.hid ⟨⟨hR, HB0.out.2.bel.trans (hB.mono hbs), fun k hk => Nat.le_trans hbs (hF k hk)⟩, HB0.out.2.below hB, hF⟩
      clear hR hF hB HC hbs
      have HC := Lib.hid (C.feed A H5.out.1.1 H5.out.1.2.1 (by have := HB0.out.1; show 0 + A.length ≤ 100000; omega))
      rw [fresh_feed] at HC
      go_wp2_with fail
      refine HC.out.mono ?_
      rintro e W6 ⟨rfl, F6, hR, hm⟩
      have hfl5 := (C.lt H5.out.1.1).2
      have H6 : Hid (AtR RA w W6 F6 g (atS m A) ∧ BkI w b b6 (b6 + 1) base (.slice a6 N c6) L W6 ∧ (∀ k, F6 k → wr.heap.size ≤ k) ∧ base ≤ wr.heap.size) := Lib.hid (by
        have hl := HB0.out.2.low
        have hwr := hm.size
        have key : ∀ k, k < wr.heap.size → ¬ F5 k := fun k hk e => by have := H5.out.2.2 k e; omega
        have hw5 := H5.out.2.1.low
        have hx : wr.heap.size ≤ W5.heap.size := by
          have := (C.lt H5.out.1.1).1
          have h1 := H5.out.2.2 _ this
          have := hfl5 _ this
          omega
        have h := H5.out.2.1
        refine ⟨H5.out.1.moves hR hm, ⟨h.r4.moves hm (key _ (by omega)), h.r6.moves hm (key _ (by omega)), h.r7.moves hm (key _ (by omega)), h.sent.same fun j hj => hm.rest j (h.sent.lt hj).2 ?_, h.bel.trans (hm.below H5.out.1.2.2 h.bel.size), by omega⟩, fun k hk => by rcases hm.foot k hk with h1 | h1; exact H5.out.2.2 k h1; omega, by omega⟩
        intro e
        have := HB0.out.2.sent.lt hj
        exact key j this.2 e)
      clear hR hm HC H5 hfl5
      obtain ⟨W7, hW7⟩ : ∃ W, W = (W6.alloc (.cells #[.int .i64 0] 3)).alloc (.cells #[S []] 9) := ⟨_, rfl⟩
      obtain ⟨b13, hb13⟩ : ∃ y, y = W6.heap.size := ⟨_, rfl⟩
      have hal : Below W6.heap.size W6 W7 := by rw [hW7]; exact ((Below.refl _ _).alloc (Nat.le_refl _) _).alloc (by simp) _
      have h14 : Row W7 (b13 + 1) #[S []] 9 := by
        have h := row_new (W6.alloc (.cells #[.int .i64 0] 3)) #[S []] 9
        rw [alloc_size, ← hW7, ← hb13] at h
        exact h
      have h13 : Row W7 b13 #[.int .i64 0] 3 := by rw [hW7, hb13]; exact (row_new W6 _ _).alloc _
      have H7 := Lib.hid (And.intro (H6.out.1.below C hal) (And.intro (H6.out.2.1.below hal) (And.intro h13 (And.intro h14 (And.intro H6.out.2.2.1 (And.intro H6.out.2.2.2 (And.intro hal hb13)))))))
      have HC := Lib.hid (C.all H7.out.1.1 H7.out.1.2.1)
      rw [hW7] at HC
      clear hal h14 h13
      have heq0 : ∀ (gf : Nat) (lb : Array Value) (w : World), (binOp .eql 41 (.func (.func gf) #[] lb) .nilFunc).run Try.prog w = .ok (.bool false) w := fun gf lb => eql_nilFunc Try.underlying41 (.func gf) #[] lb
      have HEQ := Lib.hid heq0
      have HB13 := Lib.hid hb13
      clear heq0 hb13
      go_wp2_with fail
      refine HC.out.mono ?_
      rintro e W8 ⟨gf1, lb1, rfl, -, hB⟩
      rw [← hW7] at hB
      rw [← HB13.out]
      have heq := HEQ.out gf1 lb1
      have h7s := H7.out.1.2.1.size
      have H8 := Lib.hid (And.intro (H7.out.1.below C hB) (And.intro (H7.out.2.1.below hB) (And.intro (H7.out.2.2.1.below hB H7.out.2.2.1.lt) (And.intro (H7.out.2.2.2.1.below hB H7.out.2.2.2.1.lt) hB.size))))
      clear hB HC hW7 h7s
      have HC := Lib.hid (C.all H8.out.1.1 H8.out.1.2.1)
      go_wp2_with fail
      refine HC.out.mono ?_
      rintro e W9 ⟨gf, lb, rfl, hall, hB⟩
      obtain ⟨heg, F1, St, hS0, hF1, hkeep, hStlt, hStR, hseq⟩ := hall
      have hF19 : ∀ k, F1 k → k < W9.heap.size := hStlt _ _ _ hS0
      have hl8 := (C.lt H8.out.1.1).2
      have h8s := hB.size
      have hQ0 : QInv w b b6 b13 base (.slice a6 N c6) L (0, []) (with2 F1 W9.heap.size) W9 := by
        have h := H8.out.2.1.below hB
        have hlow := H7.out.2.1.low
        have h13 := HB13.out
        have hwr := H7.out.2.2.2.2.2.1
        have hal := H7.out.2.2.2.2.2.2.1.size
        have h87 := H8.out.2.2.2.2
        have key : ∀ k, k < W8.heap.size → ¬ F6 k → ¬ with2 F1 W9.heap.size k := fun k hk hn e => by
          rcases e with e | e
          · rcases hF1 k e with h1 | h1
            · exact hn h1
            · omega
          · omega
        have keyb : ∀ k, k < base → ¬ F6 k := fun k hk e => by have := H7.out.2.2.2.2.1 k e; omega
        have h6l : ∀ k, F6 k → k < b13 := fun k hk => by have := (C.lt H6.out.1.1).2 k hk; omega
        refine ⟨h.r4, h.r6, h.sent, H8.out.2.2.1.below hB H8.out.2.2.1.lt, H8.out.2.2.2.1.below hB H8.out.2.2.2.1.lt, h.bel, ⟨key b H8.out.2.1.r4.lt (keyb _ (by omega)), key b6 H8.out.2.1.r6.lt (keyb _ (by omega)), key b13 H8.out.2.2.1.lt (fun e => by have := h6l _ e; omega), key _ H8.out.2.2.2.1.lt (fun e => by have := h6l _ e; omega), fun k hk => key k (H8.out.2.1.sent.lt hk).2 (fun e => ?_)⟩, fun k hk => ?_⟩
        · have h1 := H7.out.2.2.2.2.1 k e
          have h2 := (HB0.out.2.sent.lt hk).2
          omega
        · rcases hk with hk | hk
          · rcases hF1 k hk with h1 | h1
            · exact H8.out.1.2.2 k h1
            · have := H8.out.1.2.1.size; omega
          · have := H8.out.1.2.1.size; omega
      have HS := Lib.hid (And.intro hStlt (And.intro hStR hF19))
      have HBW := Lib.hid (H8.out.1.2.1.trans (hB.mono H8.out.1.2.1.size))
      have HLOW : Hid (b < b13 ∧ b6 < b13 ∧ b ≠ b6 ∧ w.heap.size ≤ b ∧ (∀ k, (Value.slice a6 N c6).ownBlock = some k → k < b13) ∧ b13 + 1 < W9.heap.size) := Lib.hid (by
        have hlow := H7.out.2.1.low
        have h13 := HB13.out
        have hwr := H7.out.2.2.2.2.2.1
        have h9 := (H8.out.2.2.2.1.below hB H8.out.2.2.2.1.lt).lt
        exact ⟨by have := H6.out.2.1.r4.lt; omega, by have := H6.out.2.1.r6.lt; omega, hlow.2.2.2.2.2.1, hlow.1, fun k hk => by have := (H6.out.2.1.sent.lt hk).2; omega, h9⟩)
      clear heq HC hB hF1 hl8 h8s H8 H7 H6
      go_wp2_with fail
      rw [← wpIn_wide (n := 5)]
      refine wpIn_rangeFunc_M (gf := gf) (lb := lb) (L := allF (atS m A)) (encs := encE) (St := St) (F0 := F1) rfl heg (fun m => hseq m) hkeep hS0 hF19 (fun _ => rfl)
        (fun pre Fc W => QInv w b b6 b13 base (.slice a6 N c6) L (pre.foldl stepB (0, [])) Fc W) (fun _ _ _ _ => False)
        (fun pre Fa Fb A A' h hm => h.moves hm) (fun _ _ _ _ _ _ h _ => h) hQ0 ?round ?done ?stop
      case stop => exact fun c pre F W _ h => h.elim
      case done =>
        rintro Fy W hQ hSt hnB hD
        obtain ⟨F0, hRA, hF0⟩ := HS.out.2.1 _ _ _ hSt
        rw [stepS_end, HLL.out.2.1] at hRA
        have e13 : ((allF (atS m A)).foldl stepB (0, [])).1 = N := by rw [HLL.out.1, fold_all, HLL.out.2.2.1]; dsimp only; omega
        have h13 := hQ.r13
        rw [e13] at h13
        have c13 := cell_of_row W _ 0 _ _ (0, 0) h13
        have c6' := cell_of_row W _ 0 _ _ (0, 0) hQ.r6
        have hl6 := fun W' => hQ.sent.len 3 W'
        rw [HLL.out.2.2.1] at hl6
        have n1 : ((N : Int) == (N : Int)) = true := by simp
        have hnD : ∀ k, F0 k → k ≠ W9.heap.size := fun k hk e => hnB.1 (e ▸ hF0 k hk)
        have HO := Lib.hid (And.intro hQ hD)
        have HR := Lib.hid (And.intro hRA hQ.bel)
        clear hRA hF0 e13 h13 hQ hD hSt hnB hS0 hQ0 hF19 hseq heg hkeep hStlt hStR
        gi_wp2
        have HC := Lib.hid (C.idle HR.out.1 HR.out.2)
        rw [show (atS m []).idle = true from rfl] at HC
        go_wp2_with fail
        refine HC.out.mono ?_
        rintro e Wi ⟨rfl, hB⟩
        have HRi := Lib.hid (And.intro (C.below HR.out.1 hB) (And.intro hB (HR.out.2.trans (hB.mono HR.out.2.size))))
        clear hB HC
        have HC := Lib.hid (C.bad HRi.out.1 HRi.out.2.2)
        rw [show (atS m []).bad = false from rfl] at HC
        go_wp2_with fail
        refine HC.out.mono ?_
        rintro e Wj ⟨rfl, hB⟩
        have hBj := HRi.out.2.1.trans (hB.mono HRi.out.2.1.size)
        have hr4 := HO.out.1.r4.below hBj HO.out.1.r4.lt
        have cb := cell_of_row Wj _ 0 _ 4 (0, 0) hr4
        have zb := hr4.frozen 0
        have HFN := Lib.hid (And.intro hr4 (And.intro (HR.out.2.trans (hBj.mono HR.out.2.size)) ((hBj.block _ (Array.getElem?_eq_some_iff.1 HO.out.2).1).trans HO.out.2)))
        clear hB hBj hr4 HC
        go_wp2
        exact fback_end (HFN.out.1.set 0 _) (HFN.out.2.1.setCell (p := ⟨b, 0, none⟩) HLOW.out.2.2.2.1 _) ((Below.heap_setCell _ _ _ _ (fun e => by have e2 : W9.heap.size = b := e; have := HLOW.out; omega)).trans HFN.out.2.2) HBW.out.size rfl
      case round =>
        intro ll pre x Fy W KK hll hpx hQ hSt hnB hsz hK
        subst hll
        obtain ⟨j, f, hj, hfj, hcase⟩ := back_pos L (0, []) pre x (by rw [← HLL.out.1]; exact hpx)
        obtain ⟨P, hP⟩ : ∃ y, y = pre.foldl stepB (0, []) := ⟨_, rfl⟩
        have hnx : (pre ++ [x]).foldl stepB (0, []) = stepB P x := by rw [List.foldl_append, hP]; rfl
        rw [← hP] at hQ hfj hcase
        have hfl : ∀ k, with2 Fy W9.heap.size k → k < W.heap.size := fun k hk => by
          rcases hk with hk | hk
          · exact HS.out.1 _ _ _ hSt k hk
          · omega
        have HX := Lib.hid (And.intro hQ (And.intro hfl (And.intro hj (And.intro hfj (And.intro hcase hnx)))))
        clear hQ hSt hnB hpx hfl hj hfj hcase hnx hP hsz hS0 hQ0 hF19 hseq heg hkeep hStlt hStR
        have hcs := HX.out.2.2.2.2.1
        obtain ⟨kd, eop, efin, ln, tx⟩ := x
        unfold encE evV evC
        gi_wp2
        obtain ⟨Wa, hWa⟩ : ∃ X, X = W.alloc (.cells #[.int .i64 (kd : Int), .int .i64 (eop : Int), .bool efin, .int .i64 (ln : Int), S tx] 29) := ⟨_, rfl⟩
        obtain ⟨be, hbe⟩ : ∃ y, y = W.heap.size := ⟨_, rfl⟩
        rw [← hWa, ← hbe]
        have hBa : Below W.heap.size W Wa := by rw [hWa]; exact (Below.refl _ _).alloc (Nat.le_refl _) _
        have hra : Row Wa be #[.int .i64 (kd : Int), .int .i64 (eop : Int), .bool efin, .int .i64 (ln : Int), S tx] 29 := by rw [hWa, hbe]; exact row_new _ _ _
        clear hWa
        refine hK _ Wa ⟨hBa.size, fun r hr => hBa.block r (HX.out.2.1 r hr)⟩ ?_
        intro W2 hg _
        have hQ2 := (HX.out.1.moves (Moves.of_below hBa)).moves (W' := W2) (Fc' := with2 Fy W9.heap.size) ⟨hg.os, hg.tape, hg.output, hg.size, fun _ hk => .inl hk, fun k hk hn => hg.block k hk fun e => hn (.inr (.inr (Option.some.inj e)))⟩
        have hre : Row W2 be #[.int .i64 (kd : Int), .int .i64 (eop : Int), .bool efin, .int .i64 (ln : Int), S tx] 29 := row_grown hra hg (fun e => by have := Option.some.inj e; have := HX.out.2.1 _ (.inr (.inr rfl) : with2 Fy W9.heap.size (W9.heap.size + 1)); omega)
        have hjl : j < L.length := (List.getElem?_eq_some_iff.1 HX.out.2.2.1).1
        have hjN : j < N := by rw [← HLL.out.2.2.1]; exact hjl
        obtain ⟨a6', c6', hv6, hcell⟩ := hQ2.sent.form
        obtain ⟨g6, hag, -, hgl, hcel2⟩ := hcell (fun e => by rw [e] at hjl; exact absurd hjl (Nat.not_lt_zero _))
        obtain ⟨rfl, rfl⟩ : a6 = a6' ∧ c6 = c6' := by injection hv6 with e1 _ e3; exact ⟨e1, e3⟩
        subst hag
        have hix := fun W' => indexFr g6 N c6 j hjN W'
        have hl6 := fun W' => hQ2.sent.len 3 W'
        rw [HLL.out.2.2.1] at hl6
        obtain ⟨ffin, frsv, fop, fmk, ⟨q0, q1, q2, q3⟩, data⟩ := f
        have y0 : W2.cell? ⟨g6, j * 9 + 0, none⟩ = some (.bool ffin) := hcel2 j _ 0 _ HX.out.2.2.1 rfl
        have y1 : W2.cell? ⟨g6, j * 9 + 1, none⟩ = some (.int .i64 frsv) := hcel2 j _ 1 _ HX.out.2.2.1 rfl
        have y2 : W2.cell? ⟨g6, j * 9 + 2, none⟩ = some (.int .i64 fop) := hcel2 j _ 2 _ HX.out.2.2.1 rfl
        have y3 : W2.cell? ⟨g6, j * 9 + 3, none⟩ = some (.bool fmk) := hcel2 j _ 3 _ HX.out.2.2.1 rfl
        have y4 : W2.cell? ⟨g6, j * 9 + 4, none⟩ = some (B q0) := hcel2 j _ 4 _ HX.out.2.2.1 rfl
        have y5 : W2.cell? ⟨g6, j * 9 + 5, none⟩ = some (B q1) := hcel2 j _ 5 _ HX.out.2.2.1 rfl
        have y6 : W2.cell? ⟨g6, j * 9 + 6, none⟩ = some (B q2) := hcel2 j _ 6 _ HX.out.2.2.1 rfl
        have y7 : W2.cell? ⟨g6, j * 9 + 7, none⟩ = some (B q3) := hcel2 j _ 7 _ HX.out.2.2.1 rfl
        have y8 : W2.cell? ⟨g6, j * 9 + 8, none⟩ = some (S data) := hcel2 j _ 8 _ HX.out.2.2.1 rfl
        rw [Nat.add_zero] at y0
        obtain ⟨KB, hKB⟩ : ∃ y, y = j * 9 := ⟨_, rfl⟩
        rw [← hKB] at hix y0 y1 y2 y3 y4 y5 y6 y7 y8
        have d0 : W2.cell? ⟨be, 0, none⟩ = some (.int .i64 (kd : Int)) := cell_of_row W2 _ 0 _ _ (0, 0) hre
        have d1 : W2.cell? ⟨be, 1, none⟩ = some (.int .i64 (eop : Int)) := cell_of_row W2 _ 1 _ _ (0, 0) hre
        have d2 : W2.cell? ⟨be, 2, none⟩ = some (.bool efin) := cell_of_row W2 _ 2 _ _ (0, 0) hre
        have d3 : W2.cell? ⟨be, 3, none⟩ = some (.int .i64 (ln : Int)) := cell_of_row W2 _ 3 _ _ (0, 0) hre
        have d4 : W2.cell? ⟨be, 4, none⟩ = some (S tx) := cell_of_row W2 _ 4 _ _ (0, 0) hre
        obtain ⟨P1, P2⟩ := P
        have hP1 : P1 = j := by have := HX.out.2.2.2.1; dsimp only at this; omega
        have c13 : W2.cell? ⟨b13, 0, none⟩ = some (.int .i64 (j : Int)) := by rw [← hP1]; exact cell_of_row W2 _ 0 _ _ (0, 0) hQ2.r13
        have c14 : W2.cell? ⟨b13 + 1, 0, none⟩ = some (S P2) := cell_of_row W2 _ 0 _ _ (0, 0) hQ2.r14
        have c6'' : W2.cell? ⟨b6, 0, none⟩ = some (.slice (some ⟨g6, 0, none⟩) N c6) := cell_of_row W2 _ 0 _ _ (0, 0) hQ2.r6
        have z13 := hQ2.r13.frozen 0
        have z14 := hQ2.r14.frozen 0
        have j1 : decide ((N : Int) ≤ (j : Int)) = false := decide_eq_false (by omega)
        have j1' : decide (N ≤ j) = false := decide_eq_false (by omega)
        have H2 := Lib.hid (And.intro hQ2 (And.intro hre (And.intro hP1 (show W.heap.size + 1 ≤ W2.heap.size from by have := hra.lt; have := hg.size; omega))))
        have HBE := Lib.hid hbe
        clear hBa hra hg hQ2 hre hcell hcel2 hv6 hgl hKB hP1 hK hbe hjl
        obtain ⟨Wf, hWf⟩ : ∃ X, X = W2.alloc (.cells #[.bool ffin, .int .i64 frsv, .int .i64 fop, .bool fmk, B q0, B q1, B q2, B q3, S data] 51) := ⟨_, rfl⟩
        have hal : Below W2.heap.size W2 Wf := by rw [hWf]; exact (Below.refl _ _).alloc (Nat.le_refl _) _
        have HQF : Hid (QInv w b b6 b13 base (.slice (some ⟨g6, 0, none⟩) N c6) L (P1, P2) (with2 Fy W9.heap.size) Wf ∧ (∀ k, with2 Fy W9.heap.size k → k < Wf.heap.size) ∧ Kept (with2 Fy W9.heap.size) W2 Wf) := Lib.hid ⟨H2.out.1.moves (Moves.of_below hal), fun k hk => by have := HX.out.2.1 k hk; have := H2.out.2.2.2; have := hal.size; omega, ⟨hal.size, fun r hr => hal.block r (by have := HX.out.2.1 r hr; have := H2.out.2.2.2; omega)⟩⟩
        have u13 := cell_of_row Wf _ 0 _ _ (0, 0) HQF.out.1.r13
        have u14 := cell_of_row Wf _ 0 _ _ (0, 0) HQF.out.1.r14
        have hreF := H2.out.2.1.below hal H2.out.2.1.lt
        have m0 : Wf.cell? ⟨be, 0, none⟩ = some (.int .i64 (kd : Int)) := cell_of_row Wf _ 0 _ _ (0, 0) hreF
        have m1 : Wf.cell? ⟨be, 1, none⟩ = some (.int .i64 (eop : Int)) := cell_of_row Wf _ 1 _ _ (0, 0) hreF
        have m2 : Wf.cell? ⟨be, 2, none⟩ = some (.bool efin) := cell_of_row Wf _ 2 _ _ (0, 0) hreF
        have m3 : Wf.cell? ⟨be, 3, none⟩ = some (.int .i64 (ln : Int)) := cell_of_row Wf _ 3 _ _ (0, 0) hreF
        have m4 : Wf.cell? ⟨be, 4, none⟩ = some (S tx) := cell_of_row Wf _ 4 _ _ (0, 0) hreF
        have v13 := HQF.out.1.r13.frozen 0
        have v14 := HQF.out.1.r14.frozen 0
        have hnx := HX.out.2.2.2.2.2
        have hfop := HLL.out.2.2.2.1 _ (List.mem_of_getElem? HX.out.2.2.1)
        have hfdl := HLL.out.2.2.2.2 _ (List.mem_of_getElem? HX.out.2.2.1)
        dsimp only at hfop hfdl
        have hlD := run_len_S (P := Try.prog) Try.underlying9 3 data
        obtain ⟨DL, hDL⟩ : ∃ y, y = data.length := ⟨_, rfl⟩
        rw [← hDL] at hlD hfdl
        have hb0 : ∀ (x : Bool) W, (binOp .neq 4 (.bool x) (.bool x)).run Try.prog W = .ok (.bool false) W := fun x W => by cases x <;> rfl
        rw [hWf] at u13 u14 v13 v14 m0 m1 m2 m3 m4
        have HNX := Lib.hid hnx
        have HDL := Lib.hid hDL
        clear hal hnx hDL hreF
        rcases hcs with hc | ⟨hc, hp2⟩ | ⟨hc, hp2⟩
        · injection hc with e1 e2 e3 e4 e5
          have k1 : ((kd : Int) == 1) = true := by rw [beq_iff_eq]; omega
          have k2 : ((eop : Int) != fop) = false := by rw [bne_eq_false_iff_eq, e2]; exact hfop
          have k3 : (efin != ffin) = false := by rw [e3]; simp [hdOf]
          have k4 : ((ln : Int) != (DL : Int)) = false := by rw [bne_eq_false_iff_eq, e4, HDL.out]; rfl
          have HE : Hid (kd = 1 ∧ efin = ffin) := Lib.hid ⟨e1, e3⟩
          clear e1 e2 e3 e4 e5 hfop
          obtain rfl : efin = ffin := HE.out.2
          gi_wp2
          rw [← hWf]
          have hq := HQF.out.1.put14 HLOW.out.1 HLOW.out.2.1 HLOW.out.2.2.2.2.1 HLOW.out.2.2.2.1 HQF.out.2.1 []
          refine ⟨HQF.out.2.2.trans hq.1, ?_⟩
          dsimp only
          rw [HNX.out]
          unfold stepB
          rw [if_pos HE.out.1]
          exact hq.2
        · injection hc with e1 e2 e3 e4 e5
          have k1 : ((kd : Int) == 1) = false := by rw [beq_eq_false_iff_ne]; omega
          have k2 : ((kd : Int) == 2) = true := by rw [beq_iff_eq]; omega
          have HE : Hid (kd = 2) := Lib.hid e1
          have hadd : binOp .add 9 (S P2) (S tx) = pure (S (P2 ++ tx)) := S_add 9 P2 tx (by
            have e0 : P2 = [] := hp2
            rw [e0, e5]
            have := HDL.out
            simp; omega)
          clear e1 e2 e3 e4 e5 hfop hp2
          gi_wp2
          rw [← hWf]
          have hq := HQF.out.1.put14 HLOW.out.1 HLOW.out.2.1 HLOW.out.2.2.2.2.1 HLOW.out.2.2.2.1 HQF.out.2.1 (P2 ++ tx)
          refine ⟨HQF.out.2.2.trans hq.1, ?_⟩
          dsimp only
          rw [HNX.out]
          unfold stepB
          rw [if_neg (by have h := HE.out; show ¬ kd = 1; omega), if_pos HE.out]
          exact hq.2
        · injection hc with e1 e2 e3 e4 e5
          have k1 : ((kd : Int) == 1) = false := by rw [beq_eq_false_iff_ne]; omega
          have k2 : ((kd : Int) == 2) = false := by rw [beq_eq_false_iff_ne]; omega
          have k3 : ((kd : Int) == 3) = true := by rw [beq_iff_eq]; omega
          have HE : Hid (kd = 3) := Lib.hid e1
          obtain rfl : P2 = data := hp2
          have qt : binOp .neq 9 (S P2) (S P2) = pure (.bool false) := by rw [neql_S]; simp
          have gt : ∀ a b, eqGuard .neq 9 a b (S P2) (S P2) = pure () := fun a b => nguard_S 9 a b P2 P2
          have hw1 : IntKind.i64.wrap ((j : Int) + 1) = (j : Int) + 1 := by have := HNb.out; rw [IntKind.wrap_i64]; omega
          have hPj := H2.out.2.2.1
          clear e1 e2 e3 e4 e5 hfop
          gi_wp2
          rw [← hWf]
          have hq := HQF.out.1.put13 HLOW.out.1 HLOW.out.2.1 HLOW.out.2.2.2.2.1 HLOW.out.2.2.2.1 HQF.out.2.1 (P1 + 1)
          have ej : ((P1 + 1 : Nat) : Int) = (j : Int) + 1 := by rw [hPj]; rfl
          rw [ej] at hq
          refine ⟨HQF.out.2.2.trans hq.1, ?_⟩
          dsimp only
          rw [HNX.out]
          unfold stepB
          rw [if_neg (by have h := HE.out; show ¬ kd = 1; omega), if_neg (by have h := HE.out; show ¬ kd = 2; omega)]
          exact hq.2
end Go.Proofs.Ytlmolmmhkddpaaa
