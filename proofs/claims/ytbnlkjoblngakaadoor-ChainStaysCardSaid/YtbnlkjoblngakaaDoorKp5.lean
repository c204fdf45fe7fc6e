/- The landed package of chains: steps that put a field behind those of a reply. (mkkp5.py writes it.) -/
import Derived.Test.YtbnlkjoblngakaaDoorKp4
import Derived.Shelf.RegionOpen
namespace Go.Proofs.YtbnlkjoblngakaaDoor
open Go.RowKit Go.Shelf
attribute [local go_sem] store_one S_match S_store

/-- What a step that adds keeps while the next one is asked. -/
def KeptK (b0 : Nat) (r : Rq) (V : Value) (bn : Nat) (g : Nat) (lb : Array Value) (bf : Nat) (cf : Array Value) (tf : TypeId) (w : World) : Prop :=
  Row w b0 (rqC r V) 25 ∧ Row w bn #[hV g lb] 40 ∧ Row w bf cf tf
theorem KeptK.same {b0 : Nat} {r : Rq} {V : Value} {bn g : Nat} {lb : Array Value} {bf : Nat} {cf : Array Value} {tf : TypeId} {w w' : World} (h : KeptK b0 r V bn g lb bf cf tf w) (hb : ∀ k, k = b0 ∨ k = bn ∨ k = bf → w'.heap[k]? = w.heap[k]?) : KeptK b0 r V bn g lb bf cf tf w' :=
  ⟨row_heap (hb _ (.inl rfl)) h.1, row_heap (hb _ (.inr (.inl rfl))) h.2.1, row_heap (hb _ (.inr (.inr rfl))) h.2.2⟩
/-- The end of a step that adds: its answer stored. -/
theorem back_adds {W Wc W3 : World} {Q : Ending → World → Prop} {n u : Tx} {c : Int} {B : Nat} {fs : Fds} {body : Tx} {W4 : World} {V4 : Value} (h1 : Wc.heap.size ≤ B) (hs : W.heap.size + 2 ≤ Wc.heap.size) (h6 : ∀ W4 V4, Rest (fun k => B ≤ k ∨ (W.heap.size ≤ k ∧ k < Wc.heap.size)) W3 W4 → FO B V4 (fs ++ [(n, u)]) W4 → Q (.returned (rpV c V4 body)) W4)
    (hR : Rest (fun k => B ≤ k) W3 W4) (hF : FO B V4 (fs ++ [(n, u)]) W4) : Q (.returned (rpV c V4 body)) (put3k W4 (W.heap.size + 1) (.int .i64 c) V4 (S body)) := by
  have hR2 := ((set_rest W4 (W.heap.size + 1) 0 (.int .i64 c)).trans (set_rest _ (W.heap.size + 1) 1 V4)).trans (set_rest _ (W.heap.size + 1) 2 (S body))
  refine h6 _ _ ((hR.trans hR2).mono fun k _ h => ?_) (own_same hF fun j hj => hR2.rest j (World.ownsRow.lt hF j hj).2 (fun h => by have := (World.ownsRow.lt hF j hj).1; omega))
  rcases h with h | h
  · exact .inl h
  · right; omega
theorem rest_put3k (W : World) (b : Nat) (x y z : Value) : Rest (fun k => k = b) W (put3k W b x y z) :=
  (((set_rest W b 0 x).trans (set_rest _ b 1 y)).trans (set_rest _ b 2 z)).mono fun _ _ h => h.elim (fun h => h.elim id id) id
set_option maxRecDepth 100000 in
set_option maxHeartbeats 1000000 in
theorem add_does {K1 K2 : Nat → Prop} {w1 w2 : World} {g gh : Nat} {lb lbh : Array Value} {l : List Stp} {s : Stp} {b1 b2 : Nat} (hsz : w1.heap.size ≤ w2.heap.size) (hb : ∀ k, K1 k → w2.heap[k]? = w1.heap[k]?) (h12 : ∀ k, K1 k → K2 k) (h2 : ∀ k, K2 k → k < w2.heap.size) (hen : Entering g) (hd : DoesB K1 w1 g lb l gh lbh) (hl : l.length ≤ 100) (hsk : s.kind = 1) (_hsn : s.name.length ≤ 100) (_hsv : s.val.length ≤ 100)
    (hg1 : K2 b1) (hr1 : Row w2 b1 #[hV g lb] 40) (hg2 : K2 b2) (hr2 : Row w2 b2 #[S s.name, S s.val] 53) :
    DoesB K2 w2 67 #[.pointer (some ⟨b1, 0, none⟩), .pointer (some ⟨b2, 0, none⟩)] (s :: l) gh lbh := by
  intro W hs hk r V b o hA hr Q hQ
  have hrW1 := row_heap (hk b1 hg1) hr1
  have hrW2 := row_heap (hk b2 hg2) hr2
  obtain ⟨W1, hW1⟩ : ∃ W1, W1 = (W.alloc (.cells (rqC r V) 25)).alloc (.cells #[.int .i64 0, .slice none 0 0, .string ⟨#[]⟩] 27) := ⟨_, rfl⟩
  have hs1 : W1.heap.size = W.heap.size + 2 := by rw [hW1]; simp
  have hB1 : Below W.heap.size W W1 := by rw [hW1]; exact ((Below.refl _ W).alloc (Nat.le_refl _) _).alloc (by rw [alloc_size]; omega) _
  have hr0 : Row W1 W.heap.size (rqC r V) 25 := by rw [hW1]; exact (row_new W _ _).alloc _
  have hrr : Row W1 (W.heap.size + 1) #[.int .i64 0, .slice none 0 0, .string ⟨#[]⟩] 27 := by
    have h := row_new (W.alloc (.cells (rqC r V) 25)) #[.int .i64 0, .slice none 0 0, .string ⟨#[]⟩] 27
    rw [alloc_size] at h
    rw [hW1]; exact h
  have hrV1 : Row W1 b1 #[hV g lb] 40 := hrW1.below hB1 hrW1.lt
  have k1 : W1.cell? ⟨b1, 0, none⟩ = some (hV g lb) := cell_of_row W1 b1 0 _ _ (0, 0) hrV1
  have hrV2 : Row W1 b2 #[S s.name, S s.val] 53 := hrW2.below hB1 hrW2.lt
  have hen' : ∀ args w, (callFunc g args).run Tryd.prog w = .ok (.enter g args) w := hen
  have hadd : addS r.fs s = [(s.name, s.val)] := by unfold addS; rw [if_pos hsk]
  have hst : stepS r.fs r.body s r.p = .inl r.p := by unfold stepS; rw [if_neg (by omega), if_neg (by omega), if_neg (by omega)]
  obtain ⟨Wq, hWq⟩ : ∃ Wq, Wq = W1.drew := ⟨_, rfl⟩
  have hBq : Below W1.heap.size W1 Wq := by rw [hWq]; exact ⟨rfl, rfl, rfl, Nat.le_refl _, fun _ _ => rfl⟩
  have hpo := @next_of K1 K2 w1 w2 W Wq g gh lb lbh l s r V b o r.p Q hsz hb h12 h2 hd hl hs hk hA hQ (hB1.trans (hBq.mono hB1.size)) hr hst
  rw [hadd] at hpo
  have HP := Lib.hid hpo
  have hK1 : KeptK W.heap.size r V b1 g lb b2 #[S s.name, S s.val] 53 W1 := ⟨hr0, hrV1, hrV2⟩
  obtain ⟨nm, hnm⟩ : ∃ x, x = s.name := ⟨_, rfl⟩
  obtain ⟨vl, hvl⟩ : ∃ x, x = s.val := ⟨_, rfl⟩
  rw [← hnm, ← hvl] at hK1 HP
  have hKq := hK1.same (w' := Wq) fun k _ => by rw [hWq]; rfl
  have hkb : ∀ k, k = b1 ∨ k = b2 → K2 k ∧ k < w2.heap.size := fun k hk => by rcases hk with rfl | rfl; exact ⟨hg1, h2 _ hg1⟩; exact ⟨hg2, h2 _ hg2⟩
  have HKB := Lib.hid (And.intro hkb hs)
  have HSZ : Hid (W.heap.size + 2 ≤ Wq.heap.size) := Lib.hid (by have := hBq.size; omega)
  have HR1 := Lib.hid (row_heap (w' := Wq) (by rw [hWq]; rfl) hrr)
  have HAT : Hid (∀ w, KeptK W.heap.size r V b1 g lb b2 #[S nm, S vl] 53 w → ((w.cell? ⟨b1, 0, none⟩ = some (hV g lb)) ∧ (w.cell? ⟨W.heap.size, 0, none⟩ = some (S r.m) ∧ w.cell? ⟨W.heap.size, 1, none⟩ = some (S r.p) ∧ w.cell? ⟨W.heap.size, 2, none⟩ = some (S r.q) ∧ w.cell? ⟨W.heap.size, 3, none⟩ = some (.int .i64 r.v) ∧ w.cell? ⟨W.heap.size, 4, none⟩ = some V ∧ w.cell? ⟨W.heap.size, 5, none⟩ = some (S r.body) ∧ w.cell? ⟨W.heap.size, 6, none⟩ = some (.bool r.cl)) ∧ (w.cell? ⟨b2, 0, none⟩ = some (S nm) ∧ w.cell? ⟨b2, 1, none⟩ = some (S vl)))) := Lib.hid fun w h => 
    ⟨cell_of_row w b1 0 _ _ (0, 0) h.2.1, ⟨cell_of_row w _ 0 _ _ (0, 0) h.1, cell_of_row w _ 1 _ _ (0, 0) h.1, cell_of_row w _ 2 _ _ (0, 0) h.1, cell_of_row w _ 3 _ _ (0, 0) h.1, cell_of_row w _ 4 _ _ (0, 0) h.1, cell_of_row w _ 5 _ _ (0, 0) h.1, cell_of_row w _ 6 _ _ (0, 0) h.1⟩, cell_of_row w b2 0 _ _ (0, 0) h.2.2, cell_of_row w b2 1 _ _ (0, 0) h.2.2⟩
  have HKQ := Lib.hid hKq
  have HK1 := Lib.hid hK1
  clear hadd hst hpo hKq hnm hvl hkb hK1 hB1 hr0 hrr hrW1 hrW2 hrV1 hrV2 hk hA hQ hr1 hr2 hg1 hg2 hen hd hb hsz h12 h2 hl hr hsk hBq hs1 k1 hs
  unfold rqV rqC at HP ⊢
  unfold rqC at hW1
  unfold hV at HAT
  go_enter Tryd.func67, Tryd.ntmps67
  go_wp2
  rw [← hW1]
  refine wp_region_noPanic ?_
  refine wp_region_held_drew (S := fun w => ((w.cell? ⟨b1, 0, none⟩ = some (.func (.func g) #[] lb)) ∧ (w.cell? ⟨W.heap.size, 0, none⟩ = some (S r.m) ∧ w.cell? ⟨W.heap.size, 1, none⟩ = some (S r.p) ∧ w.cell? ⟨W.heap.size, 2, none⟩ = some (S r.q) ∧ w.cell? ⟨W.heap.size, 3, none⟩ = some (.int .i64 r.v) ∧ w.cell? ⟨W.heap.size, 4, none⟩ = some V ∧ w.cell? ⟨W.heap.size, 5, none⟩ = some (S r.body) ∧ w.cell? ⟨W.heap.size, 6, none⟩ = some (.bool r.cl)) ∧ (w.cell? ⟨b2, 0, none⟩ = some (S nm) ∧ w.cell? ⟨b2, 1, none⟩ = some (S vl)))) (by kernel_rfl) (HAT.out W1 HK1.out) (fun _ => ?_)
  rw [← hWq]
  have HSQ := Lib.hid (HAT.out Wq HKQ.out)
  refine take_at (i := 0) (d := some 5) (v := .func (.func g) #[] lb) rfl (by kernel_rfl) (by kernel_rfl) (by kernel_rfl) (fun _ _ _ h => h) (fun oi ho => ?_) HSQ.out ?_
  · obtain rfl := Option.some.inj ho
    exact Or.inl ⟨by rfl, fun wx hSw => by obtain ⟨hu1, ⟨hv0, hv1, hv2, hv3, hv4, hv5, hv6⟩, hf0, hf1⟩ := hSw; go_simp⟩
  simp only [Act.put, List.setIfInBounds_toArray, List.set_cons_zero, List.set_cons_succ]
  refine take_at (i := 1) (d := some 6) (v := .agg #[S r.m, S r.p, S r.q, .int .i64 r.v, V, S r.body, .bool r.cl]) rfl (by kernel_rfl) (by kernel_rfl) (by kernel_rfl) (fun _ _ _ h => h) (fun oi ho => ?_) HSQ.out ?_
  · obtain rfl := Option.some.inj ho
    exact Or.inl ⟨by rfl, fun wx hSw => by obtain ⟨hu1, ⟨hv0, hv1, hv2, hv3, hv4, hv5, hv6⟩, hf0, hf1⟩ := hSw; go_simp⟩
  simp only [Act.put, List.setIfInBounds_toArray, List.set_cons_zero, List.set_cons_succ]
  refine take_at (i := 3) (d := some 8) (v := .agg #[S nm, S vl]) rfl (by kernel_rfl) (by kernel_rfl) (by kernel_rfl) (fun _ _ _ h => h) (fun oi ho => ?_) HSQ.out ?_
  · obtain rfl := Option.some.inj ho
    exact Or.inl ⟨by rfl, fun wx hSw => by obtain ⟨hu1, ⟨hv0, hv1, hv2, hv3, hv4, hv5, hv6⟩, hf0, hf1⟩ := hSw; go_simp⟩
  simp only [Act.put, List.setIfInBounds_toArray, List.set_cons_zero, List.set_cons_succ]
  refine ready_call (i := 2) (d := some 7) (f := g) (args := (#[.agg #[S r.m, S r.p, S r.q, .int .i64 r.v, V, S r.body, .bool r.cl]] ++ lb)) rfl (by kernel_rfl) (fun oi ho => ?_) ?_
  · obtain rfl := Option.some.inj ho
    exact ⟨by rfl, by go_simp⟩
  refine HP.out.mono ?_
  rintro e Wx ⟨B, c, V3, fs, body, rfl, h1, h2, h3, h4, h5, h6⟩
  have hKx : KeptK W.heap.size r V b1 g lb b2 #[S nm, S vl] 53 Wx := HKQ.out.same fun k hk => h5 k (by rcases hk with rfl | hk; exact .inr ⟨Nat.le_refl _, by have := HSZ.out; omega⟩; exact .inl (HKB.out.1 k hk).1)
  have hrx := row_heap (h5 (W.heap.size + 1) (.inr ⟨by omega, by have := HSZ.out; omega⟩)) HR1.out
  have HSX := Lib.hid (HAT.out Wx hKx)
  refine ⟨_, rfl, HSX.out, ?_⟩
  simp only [Act.put, List.setIfInBounds_toArray, List.set_cons_zero, List.set_cons_succ]
  refine ready_call (i := 4) (d := some 9) (f := 66) (args := #[rpV c V3 body, .agg #[S nm, S vl]]) rfl (by kernel_rfl) (fun oi ho => ?_) ?_
  · obtain rfl := Option.some.inj ho
    exact ⟨by rfl, by go_simp⟩
  refine (with_any c V3 body nm vl B fs Wx h3 h2 (by omega)).mono ?_
  rintro e W4 ⟨V4, rfl, hF4, hR4⟩
  have hK4 : KeptK W.heap.size r V b1 g lb b2 #[S nm, S vl] 53 W4 := hKx.same fun k hk => hR4.rest k (by have := HSZ.out; have := HKB.out; rcases hk with rfl | hk; omega; have := this.1 k hk; omega) (by have := HSZ.out; have := HKB.out; rcases hk with rfl | hk; omega; have := this.1 k hk; omega)
  have hr4 := row_heap (hR4.rest (W.heap.size + 1) (by have := HSZ.out; omega) (by have := HSZ.out; omega)) hrx
  have hq := back_adds h1 HSZ.out h6 hR4 hF4
  obtain ⟨a4, c4, hv4⟩ := fo_form hF4
  subst hv4
  obtain ⟨n4, hn4⟩ : ∃ x, x = (fs ++ [(nm, vl)]).length := ⟨_, rfl⟩
  rw [← hn4] at hq ⊢
  have hK5 : KeptK W.heap.size r V b1 g lb b2 #[S nm, S vl] 53 (put3k W4 (W.heap.size + 1) (.int .i64 c) (.slice a4 n4 c4) (S body)) := hK4.same fun k hk => (rest_put3k W4 (W.heap.size + 1) _ _ _).rest k (by have := HSZ.out; have := HKB.out; have := hR4.size; rcases hk with rfl | hk; omega; have := this; have := HKB.out.1 k hk; omega) (by have := HSZ.out; have := HKB.out; rcases hk with rfl | hk; omega; have := this.1 k hk; omega)
  have HS4 := Lib.hid (HAT.out W4 hK4)
  have HS5 := Lib.hid (HAT.out _ hK5)
  have e0 : W4.cell? ⟨W.heap.size + 1, 0, none⟩ = some (.int .i64 0) := cell_of_row W4 _ 0 _ _ (0, 0) hr4
  have e1 : W4.cell? ⟨W.heap.size + 1, 1, none⟩ = some (.slice none 0 0) := cell_of_row W4 _ 1 _ _ (0, 0) hr4
  have e2 : W4.cell? ⟨W.heap.size + 1, 2, none⟩ = some (.string ⟨#[]⟩) := cell_of_row W4 _ 2 _ _ (0, 0) hr4
  have y0 := hr4.frozen 0
  have y1 := hr4.frozen 1
  have y2 := hr4.frozen 2
  have H5 := Lib.hid (And.intro hr4 hq)
  clear h1 h2 h3 h4 h5 h6 hKx hrx hF4 hR4 hK4 hK5 hr4 hq hn4
  refine ⟨_, rfl, HS4.out, ?_⟩
  simp only [Act.put, List.setIfInBounds_toArray, List.set_cons_zero, List.set_cons_succ]
  unfold rpV rpC
  refine ready_skip (i := 5) (d := none) (w' := put3k W4 (W.heap.size + 1) (.int .i64 c) (.slice a4 n4 c4) (S body)) rfl (by kernel_rfl) (fun oi ho => ?_) HS5.out ?_
  · obtain rfl := Option.some.inj ho
    exact ⟨by rfl, by unfold put3k; go_simp⟩
  refine wpAnyH_done (by kernel_rfl) ?_ _
  refine NoPanic.normal ?_
  simp only [Act.put]
  go_wp2
  refine bodyPost_ret (results_row_one rfl _ _ (W.heap.size + 1) 27 #[.int .i64 c, .slice a4 n4 c4, S body] (0, 0) _ rfl (put3k_row H5.out.1 _ _ _) Tryd.underlying27 rfl infoRp) rfl ?_
  exact H5.out.2
set_option maxRecDepth 100000 in
set_option maxHeartbeats 1000000 in
theorem who_does {K1 K2 : Nat → Prop} {w1 w2 : World} {g gh : Nat} {lb lbh : Array Value} {l : List Stp} {s : Stp} {b1 b2 b3 : Nat} (hsz : w1.heap.size ≤ w2.heap.size) (hb : ∀ k, K1 k → w2.heap[k]? = w1.heap[k]?) (h12 : ∀ k, K1 k → K2 k) (h2 : ∀ k, K2 k → k < w2.heap.size) (hen : Entering g) (hd : DoesB K1 w1 g lb l gh lbh) (hl : l.length ≤ 100) (hsk : s.kind = 5) (hsn : s.name.length ≤ 100) (_hsv : s.val.length ≤ 100)
    (hg1 : K2 b1) (hr1 : Row w2 b1 #[S s.name] 9) (hg2 : K2 b2) (hr2 : Row w2 b2 #[hV g lb] 40) (hg3 : K2 b3) (hr3 : Row w2 b3 #[S s.val] 9) :
    DoesB K2 w2 65 #[.pointer (some ⟨b1, 0, none⟩), .pointer (some ⟨b2, 0, none⟩), .pointer (some ⟨b3, 0, none⟩)] (s :: l) gh lbh := by
  intro W hs hk r V b o hA hr Q hQ
  have hrW1 := row_heap (hk b1 hg1) hr1
  have hrW2 := row_heap (hk b2 hg2) hr2
  have hrW3 := row_heap (hk b3 hg3) hr3
  obtain ⟨W1, hW1⟩ : ∃ W1, W1 = (W.alloc (.cells (rqC r V) 25)).alloc (.cells #[.int .i64 0, .slice none 0 0, .string ⟨#[]⟩] 27) := ⟨_, rfl⟩
  have hs1 : W1.heap.size = W.heap.size + 2 := by rw [hW1]; simp
  have hB1 : Below W.heap.size W W1 := by rw [hW1]; exact ((Below.refl _ W).alloc (Nat.le_refl _) _).alloc (by rw [alloc_size]; omega) _
  have hr0 : Row W1 W.heap.size (rqC r V) 25 := by rw [hW1]; exact (row_new W _ _).alloc _
  have hrr : Row W1 (W.heap.size + 1) #[.int .i64 0, .slice none 0 0, .string ⟨#[]⟩] 27 := by
    have h := row_new (W.alloc (.cells (rqC r V) 25)) #[.int .i64 0, .slice none 0 0, .string ⟨#[]⟩] 27
    rw [alloc_size] at h
    rw [hW1]; exact h
  have hrV1 : Row W1 b1 #[S s.name] 9 := hrW1.below hB1 hrW1.lt
  have k1 : W1.cell? ⟨b1, 0, none⟩ = some (S s.name) := cell_of_row W1 b1 0 _ _ (0, 0) hrV1
  have hrV2 : Row W1 b2 #[hV g lb] 40 := hrW2.below hB1 hrW2.lt
  have k2 : W1.cell? ⟨b2, 0, none⟩ = some (hV g lb) := cell_of_row W1 b2 0 _ _ (0, 0) hrV2
  have hrV3 : Row W1 b3 #[S s.val] 9 := hrW3.below hB1 hrW3.lt
  have k3 : W1.cell? ⟨b3, 0, none⟩ = some (S s.val) := cell_of_row W1 b3 0 _ _ (0, 0) hrV3
  have hen' : ∀ args w, (callFunc g args).run Tryd.prog w = .ok (.enter g args) w := hen
  have hadd : addS r.fs s = [(s.val, (firstF r.fs s.name).getD [45])] := by unfold addS; rw [if_neg (by omega), if_pos hsk]
  have hst : stepS r.fs r.body s r.p = .inl r.p := by unfold stepS; rw [if_neg (by omega), if_neg (by omega), if_neg (by omega)]
  have HC := Lib.hid (get13L_any V r.fs b o s.name (by omega) (by have := hr.few; omega) (fun f hf => by have := (hr.each f hf).1; omega) W1 (hA.below hB1))
  have HN : Hid (∀ Wc, Below W1.heap.size W1 Wc → Calls Tryd.prog g (#[rqV r V] ++ lb) Wc (BackB K2 W Wc [(s.val, (firstF r.fs s.name).getD [45])] Q)) := Lib.hid fun Wc hC => by
    have := @next_of K1 K2 w1 w2 W Wc g gh lb lbh l s r V b o r.p Q hsz hb h12 h2 hd hl hs hk hA hQ (hB1.trans (hC.mono hB1.size)) hr hst
    rwa [hadd] at this
  have c4 : W1.cell? ⟨W.heap.size, 4, none⟩ = some V := cell_of_row W1 _ 4 _ _ (0, 0) hr0
  have hK0 : KeptK W.heap.size r V b2 g lb b3 #[S s.val] 9 W1 := ⟨hr0, hrV2, hrV3⟩
  have H1 := Lib.hid (And.intro hK0 (And.intro hrr hB1))
  have HF := Lib.hid (cntL_first s.name r.fs)
  have hkb : ∀ k, k = b2 ∨ k = b3 → K2 k ∧ k < w2.heap.size := fun k hk => by rcases hk with rfl | rfl; exact ⟨hg2, h2 _ hg2⟩; exact ⟨hg3, h2 _ hg3⟩
  have HKB := Lib.hid (And.intro hkb hs)
  have HS1 := Lib.hid hs1
  obtain ⟨nm, hnm⟩ : ∃ x, x = s.name := ⟨_, rfl⟩
  obtain ⟨vl, hvl⟩ : ∃ x, x = s.val := ⟨_, rfl⟩
  rw [← hnm] at k1 HC HF HN
  rw [← hvl] at H1 HN
  have HAT : Hid (∀ w, KeptK W.heap.size r V b2 g lb b3 #[S vl] 9 w → ((w.cell? ⟨b2, 0, none⟩ = some (hV g lb)) ∧ (w.cell? ⟨W.heap.size, 0, none⟩ = some (S r.m) ∧ w.cell? ⟨W.heap.size, 1, none⟩ = some (S r.p) ∧ w.cell? ⟨W.heap.size, 2, none⟩ = some (S r.q) ∧ w.cell? ⟨W.heap.size, 3, none⟩ = some (.int .i64 r.v) ∧ w.cell? ⟨W.heap.size, 4, none⟩ = some V ∧ w.cell? ⟨W.heap.size, 5, none⟩ = some (S r.body) ∧ w.cell? ⟨W.heap.size, 6, none⟩ = some (.bool r.cl)) ∧ (w.cell? ⟨b3, 0, none⟩ = some (S vl)))) := Lib.hid fun w h => 
    ⟨cell_of_row w b2 0 _ _ (0, 0) h.2.1, ⟨cell_of_row w _ 0 _ _ (0, 0) h.1, cell_of_row w _ 1 _ _ (0, 0) h.1, cell_of_row w _ 2 _ _ (0, 0) h.1, cell_of_row w _ 3 _ _ (0, 0) h.1, cell_of_row w _ 4 _ _ (0, 0) h.1, cell_of_row w _ 5 _ _ (0, 0) h.1, cell_of_row w _ 6 _ _ (0, 0) h.1⟩, cell_of_row w b3 0 _ _ (0, 0) h.2.2⟩
  obtain ⟨CN, hCN⟩ : ∃ x, x = cntF nm r.fs := ⟨_, rfl⟩
  obtain ⟨FV, hFV⟩ : ∃ x, x = valF nm r.fs := ⟨_, rfl⟩
  obtain ⟨U, hU⟩ : ∃ x, x = (firstF r.fs nm).getD [45] := ⟨_, rfl⟩
  rw [← hCN, ← hFV] at HC HF
  rw [← hU] at HN
  have hfst : (CN = 0 ∧ U = [45]) ∨ (0 < CN ∧ U = FV) := by
    rw [hU]
    cases h : firstF r.fs nm with
    | none => exact .inl ⟨(HF.out.1 h).1, rfl⟩
    | some v => obtain ⟨h1, h2⟩ := HF.out.2 v h; exact .inr ⟨h1, by rw [h2]; rfl⟩
  clear HF hU hCN hFV hadd hst hnm hvl hkb hK0 hB1 hr0 hrr hrW1 hrW2 hrW3 hrV1 hrV2 hrV3 hk hA hQ hr1 hr2 hr3 hg1 hg2 hg3 hen hd hb hsz h12 h2 hl hr hsk hsn hs1 k2 k3 hs
  unfold rqV rqC at HN ⊢
  unfold rqC at hW1
  unfold hV at HAT
  rw [hW1] at k1 HC c4
  go_enter Tryd.func65, Tryd.ntmps65
  go_wp2_with fail
  refine HC.out.mono ?_
  rintro e W2 ⟨rfl, hB2⟩
  rw [← hW1] at hB2
  clear HC k1 c4 hW1
  have HK2 : Hid (KeptK W.heap.size r V b2 g lb b3 #[S vl] 9 W2) := Lib.hid (H1.out.1.same fun k hk => hB2.block k (by have := HS1.out; have := HKB.out; rcases hk with rfl | hk; omega; have := this.1 k hk; omega))
  have hrr := H1.out.2.1.below hB2 H1.out.2.1.lt
  obtain ⟨Wq, hWq⟩ : ∃ Wq, Wq = W2.drew := ⟨_, rfl⟩
  have HKQ : Hid (KeptK W.heap.size r V b2 g lb b3 #[S vl] 9 Wq) := Lib.hid (HK2.out.same fun k _ => by rw [hWq]; rfl)
  have HR1 := Lib.hid (row_heap (w' := Wq) (by rw [hWq]; rfl) hrr)
  have HSZ : Hid (W.heap.size + 2 ≤ Wq.heap.size) := Lib.hid (by rw [hWq]; show _ ≤ W2.heap.size; have := hB2.size; have := HS1.out; omega)
  have HP := Lib.hid (HN.out Wq (by rw [hWq]; exact hB2.trans (Below.mono ⟨rfl, rfl, rfl, Nat.le_refl _, fun _ _ => rfl⟩ hB2.size)))
  clear hB2 hrr H1 HN HS1
  rcases hfst with ⟨h0, hU⟩ | ⟨h0, hU⟩
  · have hz : ((CN : Int) == 0) = true := by rw [beq_iff_eq]; omega
    have hz' : (CN == 0) = true := by rw [beq_iff_eq]; omega
    have hz2 : decide (CN = 0) = true := decide_eq_true h0
    subst hU
    clear h0
    go_wp2
    refine wp_region_noPanic ?_
    refine wp_region_held_drew (S := fun w => ((w.cell? ⟨b2, 0, none⟩ = some (.func (.func g) #[] lb)) ∧ (w.cell? ⟨W.heap.size, 0, none⟩ = some (S r.m) ∧ w.cell? ⟨W.heap.size, 1, none⟩ = some (S r.p) ∧ w.cell? ⟨W.heap.size, 2, none⟩ = some (S r.q) ∧ w.cell? ⟨W.heap.size, 3, none⟩ = some (.int .i64 r.v) ∧ w.cell? ⟨W.heap.size, 4, none⟩ = some V ∧ w.cell? ⟨W.heap.size, 5, none⟩ = some (S r.body) ∧ w.cell? ⟨W.heap.size, 6, none⟩ = some (.bool r.cl)) ∧ (w.cell? ⟨b3, 0, none⟩ = some (S vl)))) (by kernel_rfl) (HAT.out W2 HK2.out) (fun _ => ?_)
    rw [← hWq]
    have HSQ := Lib.hid (HAT.out Wq HKQ.out)
    refine take_at (i := 0) (d := some 17) (v := .func (.func g) #[] lb) rfl (by kernel_rfl) (by kernel_rfl) (by kernel_rfl) (fun _ _ _ h => h) (fun oi ho => ?_) HSQ.out ?_
    · obtain rfl := Option.some.inj ho
      exact Or.inl ⟨by rfl, fun wx hSw => by obtain ⟨hu1, ⟨hv0, hv1, hv2, hv3, hv4, hv5, hv6⟩, hf0⟩ := hSw; go_simp⟩
    simp only [Act.put, List.setIfInBounds_toArray, List.set_cons_zero, List.set_cons_succ]
    refine take_at (i := 1) (d := some 18) (v := .agg #[S r.m, S r.p, S r.q, .int .i64 r.v, V, S r.body, .bool r.cl]) rfl (by kernel_rfl) (by kernel_rfl) (by kernel_rfl) (fun _ _ _ h => h) (fun oi ho => ?_) HSQ.out ?_
    · obtain rfl := Option.some.inj ho
      exact Or.inl ⟨by rfl, fun wx hSw => by obtain ⟨hu1, ⟨hv0, hv1, hv2, hv3, hv4, hv5, hv6⟩, hf0⟩ := hSw; go_simp⟩
    simp only [Act.put, List.setIfInBounds_toArray, List.set_cons_zero, List.set_cons_succ]
    refine take_at (i := 3) (d := some 20) (v := S vl) rfl (by kernel_rfl) (by kernel_rfl) (by kernel_rfl) (fun _ _ _ h => h) (fun oi ho => ?_) HSQ.out ?_
    · obtain rfl := Option.some.inj ho
      exact Or.inl ⟨by rfl, fun wx hSw => by obtain ⟨hu1, ⟨hv0, hv1, hv2, hv3, hv4, hv5, hv6⟩, hf0⟩ := hSw; go_simp⟩
    simp only [Act.put, List.setIfInBounds_toArray, List.set_cons_zero, List.set_cons_succ]
    refine take_at (i := 4) (d := some 21) (v := .string ⟨#[45]⟩) rfl (by kernel_rfl) (by kernel_rfl) (by kernel_rfl) (fun _ _ _ h => h) (fun oi ho => ?_) HSQ.out ?_
    · obtain rfl := Option.some.inj ho
      exact Or.inl ⟨by rfl, fun wx hSw => by obtain ⟨hu1, ⟨hv0, hv1, hv2, hv3, hv4, hv5, hv6⟩, hf0⟩ := hSw; go_simp⟩
    simp only [Act.put, List.setIfInBounds_toArray, List.set_cons_zero, List.set_cons_succ]
    refine take_at (i := 5) (d := some 22) (v := .agg #[S vl, .string ⟨#[45]⟩]) rfl (by kernel_rfl) (by kernel_rfl) (by kernel_rfl) (fun _ _ _ h => h) (fun oi ho => ?_) HSQ.out ?_
    · obtain rfl := Option.some.inj ho
      exact Or.inl ⟨by rfl, fun wx hSw => by obtain ⟨hu1, ⟨hv0, hv1, hv2, hv3, hv4, hv5, hv6⟩, hf0⟩ := hSw; go_simp⟩
    simp only [Act.put, List.setIfInBounds_toArray, List.set_cons_zero, List.set_cons_succ]
    refine ready_call (i := 2) (d := some 19) (f := g) (args := (#[.agg #[S r.m, S r.p, S r.q, .int .i64 r.v, V, S r.body, .bool r.cl]] ++ lb)) rfl (by kernel_rfl) (fun oi ho => ?_) ?_
    · obtain rfl := Option.some.inj ho
      exact ⟨by rfl, by go_simp⟩
    refine HP.out.mono ?_
    rintro e Wx ⟨B, c, V3, fs, body, rfl, h1, h2, h3, h4, h5, h6⟩
    have hKx : KeptK W.heap.size r V b2 g lb b3 #[S vl] 9 Wx := HKQ.out.same fun k hk => h5 k (by rcases hk with rfl | hk; exact .inr ⟨Nat.le_refl _, by have := HSZ.out; omega⟩; exact .inl (HKB.out.1 k hk).1)
    have hrx := row_heap (h5 (W.heap.size + 1) (.inr ⟨by omega, by have := HSZ.out; omega⟩)) HR1.out
    have HSX := Lib.hid (HAT.out Wx hKx)
    refine ⟨_, rfl, HSX.out, ?_⟩
    simp only [Act.put, List.setIfInBounds_toArray, List.set_cons_zero, List.set_cons_succ]
    refine ready_call (i := 6) (d := some 23) (f := 66) (args := #[rpV c V3 body, .agg #[S vl, .string ⟨#[45]⟩]]) rfl (by kernel_rfl) (fun oi ho => ?_) ?_
    · obtain rfl := Option.some.inj ho
      exact ⟨by rfl, by go_simp⟩
    refine (with_any c V3 body vl [45] B fs Wx h3 h2 (by omega)).mono ?_
    rintro e W4 ⟨V4, rfl, hF4, hR4⟩
    have hK4 : KeptK W.heap.size r V b2 g lb b3 #[S vl] 9 W4 := hKx.same fun k hk => hR4.rest k (by have := HSZ.out; have := HKB.out; rcases hk with rfl | hk; omega; have := this.1 k hk; omega) (by have := HSZ.out; have := HKB.out; rcases hk with rfl | hk; omega; have := this.1 k hk; omega)
    have hr4 := row_heap (hR4.rest (W.heap.size + 1) (by have := HSZ.out; omega) (by have := HSZ.out; omega)) hrx
    have hq := back_adds h1 HSZ.out h6 hR4 hF4
    obtain ⟨a4, c4, hv4⟩ := fo_form hF4
    subst hv4
    obtain ⟨n4, hn4⟩ : ∃ x, x = (fs ++ [(vl, [45])]).length := ⟨_, rfl⟩
    rw [← hn4] at hq ⊢
    have hK5 : KeptK W.heap.size r V b2 g lb b3 #[S vl] 9 (put3k W4 (W.heap.size + 1) (.int .i64 c) (.slice a4 n4 c4) (S body)) := hK4.same fun k hk => (rest_put3k W4 (W.heap.size + 1) _ _ _).rest k (by have := HSZ.out; have := HKB.out; have := hR4.size; rcases hk with rfl | hk; omega; have := this; have := HKB.out.1 k hk; omega) (by have := HSZ.out; have := HKB.out; rcases hk with rfl | hk; omega; have := this.1 k hk; omega)
    have HS4 := Lib.hid (HAT.out W4 hK4)
    have HS5 := Lib.hid (HAT.out _ hK5)
    have e0 : W4.cell? ⟨W.heap.size + 1, 0, none⟩ = some (.int .i64 0) := cell_of_row W4 _ 0 _ _ (0, 0) hr4
    have e1 : W4.cell? ⟨W.heap.size + 1, 1, none⟩ = some (.slice none 0 0) := cell_of_row W4 _ 1 _ _ (0, 0) hr4
    have e2 : W4.cell? ⟨W.heap.size + 1, 2, none⟩ = some (.string ⟨#[]⟩) := cell_of_row W4 _ 2 _ _ (0, 0) hr4
    have y0 := hr4.frozen 0
    have y1 := hr4.frozen 1
    have y2 := hr4.frozen 2
    have H5 := Lib.hid (And.intro hr4 hq)
    clear h1 h2 h3 h4 h5 h6 hKx hrx hF4 hR4 hK4 hK5 hr4 hq hn4
    refine ⟨_, rfl, HS4.out, ?_⟩
    simp only [Act.put, List.setIfInBounds_toArray, List.set_cons_zero, List.set_cons_succ]
    unfold rpV rpC
    refine ready_skip (i := 7) (d := none) (w' := put3k W4 (W.heap.size + 1) (.int .i64 c) (.slice a4 n4 c4) (S body)) rfl (by kernel_rfl) (fun oi ho => ?_) HS5.out ?_
    · obtain rfl := Option.some.inj ho
      exact ⟨by rfl, by unfold put3k; go_simp⟩
    refine wpAnyH_done (by kernel_rfl) ?_ _
    refine NoPanic.normal ?_
    simp only [Act.put]
    go_wp2
    refine bodyPost_ret (results_row_one rfl _ _ (W.heap.size + 1) 27 #[.int .i64 c, .slice a4 n4 c4, S body] (0, 0) _ rfl (put3k_row H5.out.1 _ _ _) Tryd.underlying27 rfl infoRp) rfl ?_
    exact H5.out.2
  · have hz : ((CN : Int) == 0) = false := by rw [beq_eq_false_iff_ne]; omega
    have hz' : (CN == 0) = false := by rw [beq_eq_false_iff_ne]; omega
    have hz2 : decide (CN = 0) = false := decide_eq_false (by omega)
    subst hU
    clear h0
    go_wp2
    refine wp_region_noPanic ?_
    refine wp_region_held_drew (S := fun w => ((w.cell? ⟨b2, 0, none⟩ = some (.func (.func g) #[] lb)) ∧ (w.cell? ⟨W.heap.size, 0, none⟩ = some (S r.m) ∧ w.cell? ⟨W.heap.size, 1, none⟩ = some (S r.p) ∧ w.cell? ⟨W.heap.size, 2, none⟩ = some (S r.q) ∧ w.cell? ⟨W.heap.size, 3, none⟩ = some (.int .i64 r.v) ∧ w.cell? ⟨W.heap.size, 4, none⟩ = some V ∧ w.cell? ⟨W.heap.size, 5, none⟩ = some (S r.body) ∧ w.cell? ⟨W.heap.size, 6, none⟩ = some (.bool r.cl)) ∧ (w.cell? ⟨b3, 0, none⟩ = some (S vl)))) (by kernel_rfl) (HAT.out W2 HK2.out) (fun _ => ?_)
    rw [← hWq]
    have HSQ := Lib.hid (HAT.out Wq HKQ.out)
    refine take_at (i := 0) (d := some 17) (v := .func (.func g) #[] lb) rfl (by kernel_rfl) (by kernel_rfl) (by kernel_rfl) (fun _ _ _ h => h) (fun oi ho => ?_) HSQ.out ?_
    · obtain rfl := Option.some.inj ho
      exact Or.inl ⟨by rfl, fun wx hSw => by obtain ⟨hu1, ⟨hv0, hv1, hv2, hv3, hv4, hv5, hv6⟩, hf0⟩ := hSw; go_simp⟩
    simp only [Act.put, List.setIfInBounds_toArray, List.set_cons_zero, List.set_cons_succ]
    refine take_at (i := 1) (d := some 18) (v := .agg #[S r.m, S r.p, S r.q, .int .i64 r.v, V, S r.body, .bool r.cl]) rfl (by kernel_rfl) (by kernel_rfl) (by kernel_rfl) (fun _ _ _ h => h) (fun oi ho => ?_) HSQ.out ?_
    · obtain rfl := Option.some.inj ho
      exact Or.inl ⟨by rfl, fun wx hSw => by obtain ⟨hu1, ⟨hv0, hv1, hv2, hv3, hv4, hv5, hv6⟩, hf0⟩ := hSw; go_simp⟩
    simp only [Act.put, List.setIfInBounds_toArray, List.set_cons_zero, List.set_cons_succ]
    refine take_at (i := 3) (d := some 20) (v := S vl) rfl (by kernel_rfl) (by kernel_rfl) (by kernel_rfl) (fun _ _ _ h => h) (fun oi ho => ?_) HSQ.out ?_
    · obtain rfl := Option.some.inj ho
      exact Or.inl ⟨by rfl, fun wx hSw => by obtain ⟨hu1, ⟨hv0, hv1, hv2, hv3, hv4, hv5, hv6⟩, hf0⟩ := hSw; go_simp⟩
    simp only [Act.put, List.setIfInBounds_toArray, List.set_cons_zero, List.set_cons_succ]
    refine take_at (i := 4) (d := some 21) (v := S U) rfl (by kernel_rfl) (by kernel_rfl) (by kernel_rfl) (fun _ _ _ h => h) (fun oi ho => ?_) HSQ.out ?_
    · obtain rfl := Option.some.inj ho
      exact Or.inl ⟨by rfl, fun wx hSw => by obtain ⟨hu1, ⟨hv0, hv1, hv2, hv3, hv4, hv5, hv6⟩, hf0⟩ := hSw; go_simp⟩
    simp only [Act.put, List.setIfInBounds_toArray, List.set_cons_zero, List.set_cons_succ]
    refine take_at (i := 5) (d := some 22) (v := .agg #[S vl, S U]) rfl (by kernel_rfl) (by kernel_rfl) (by kernel_rfl) (fun _ _ _ h => h) (fun oi ho => ?_) HSQ.out ?_
    · obtain rfl := Option.some.inj ho
      exact Or.inl ⟨by rfl, fun wx hSw => by obtain ⟨hu1, ⟨hv0, hv1, hv2, hv3, hv4, hv5, hv6⟩, hf0⟩ := hSw; go_simp⟩
    simp only [Act.put, List.setIfInBounds_toArray, List.set_cons_zero, List.set_cons_succ]
    refine ready_call (i := 2) (d := some 19) (f := g) (args := (#[.agg #[S r.m, S r.p, S r.q, .int .i64 r.v, V, S r.body, .bool r.cl]] ++ lb)) rfl (by kernel_rfl) (fun oi ho => ?_) ?_
    · obtain rfl := Option.some.inj ho
      exact ⟨by rfl, by go_simp⟩
    refine HP.out.mono ?_
    rintro e Wx ⟨B, c, V3, fs, body, rfl, h1, h2, h3, h4, h5, h6⟩
    have hKx : KeptK W.heap.size r V b2 g lb b3 #[S vl] 9 Wx := HKQ.out.same fun k hk => h5 k (by rcases hk with rfl | hk; exact .inr ⟨Nat.le_refl _, by have := HSZ.out; omega⟩; exact .inl (HKB.out.1 k hk).1)
    have hrx := row_heap (h5 (W.heap.size + 1) (.inr ⟨by omega, by have := HSZ.out; omega⟩)) HR1.out
    have HSX := Lib.hid (HAT.out Wx hKx)
    refine ⟨_, rfl, HSX.out, ?_⟩
    simp only [Act.put, List.setIfInBounds_toArray, List.set_cons_zero, List.set_cons_succ]
    refine ready_call (i := 6) (d := some 23) (f := 66) (args := #[rpV c V3 body, .agg #[S vl, S U]]) rfl (by kernel_rfl) (fun oi ho => ?_) ?_
    · obtain rfl := Option.some.inj ho
      exact ⟨by rfl, by go_simp⟩
    refine (with_any c V3 body vl U B fs Wx h3 h2 (by omega)).mono ?_
    rintro e W4 ⟨V4, rfl, hF4, hR4⟩
    have hK4 : KeptK W.heap.size r V b2 g lb b3 #[S vl] 9 W4 := hKx.same fun k hk => hR4.rest k (by have := HSZ.out; have := HKB.out; rcases hk with rfl | hk; omega; have := this.1 k hk; omega) (by have := HSZ.out; have := HKB.out; rcases hk with rfl | hk; omega; have := this.1 k hk; omega)
    have hr4 := row_heap (hR4.rest (W.heap.size + 1) (by have := HSZ.out; omega) (by have := HSZ.out; omega)) hrx
    have hq := back_adds h1 HSZ.out h6 hR4 hF4
    obtain ⟨a4, c4, hv4⟩ := fo_form hF4
    subst hv4
    obtain ⟨n4, hn4⟩ : ∃ x, x = (fs ++ [(vl, U)]).length := ⟨_, rfl⟩
    rw [← hn4] at hq ⊢
    have hK5 : KeptK W.heap.size r V b2 g lb b3 #[S vl] 9 (put3k W4 (W.heap.size + 1) (.int .i64 c) (.slice a4 n4 c4) (S body)) := hK4.same fun k hk => (rest_put3k W4 (W.heap.size + 1) _ _ _).rest k (by have := HSZ.out; have := HKB.out; have := hR4.size; rcases hk with rfl | hk; omega; have := this; have := HKB.out.1 k hk; omega) (by have := HSZ.out; have := HKB.out; rcases hk with rfl | hk; omega; have := this.1 k hk; omega)
    have HS4 := Lib.hid (HAT.out W4 hK4)
    have HS5 := Lib.hid (HAT.out _ hK5)
    have e0 : W4.cell? ⟨W.heap.size + 1, 0, none⟩ = some (.int .i64 0) := cell_of_row W4 _ 0 _ _ (0, 0) hr4
    have e1 : W4.cell? ⟨W.heap.size + 1, 1, none⟩ = some (.slice none 0 0) := cell_of_row W4 _ 1 _ _ (0, 0) hr4
    have e2 : W4.cell? ⟨W.heap.size + 1, 2, none⟩ = some (.string ⟨#[]⟩) := cell_of_row W4 _ 2 _ _ (0, 0) hr4
    have y0 := hr4.frozen 0
    have y1 := hr4.frozen 1
    have y2 := hr4.frozen 2
    have H5 := Lib.hid (And.intro hr4 hq)
    clear h1 h2 h3 h4 h5 h6 hKx hrx hF4 hR4 hK4 hK5 hr4 hq hn4
    refine ⟨_, rfl, HS4.out, ?_⟩
    simp only [Act.put, List.setIfInBounds_toArray, List.set_cons_zero, List.set_cons_succ]
    unfold rpV rpC
    refine ready_skip (i := 7) (d := none) (w' := put3k W4 (W.heap.size + 1) (.int .i64 c) (.slice a4 n4 c4) (S body)) rfl (by kernel_rfl) (fun oi ho => ?_) HS5.out ?_
    · obtain rfl := Option.some.inj ho
      exact ⟨by rfl, by unfold put3k; go_simp⟩
    refine wpAnyH_done (by kernel_rfl) ?_ _
    refine NoPanic.normal ?_
    simp only [Act.put]
    go_wp2
    refine bodyPost_ret (results_row_one rfl _ _ (W.heap.size + 1) 27 #[.int .i64 c, .slice a4 n4 c4, S body] (0, 0) _ rfl (put3k_row H5.out.1 _ _ _) Tryd.underlying27 rfl infoRp) rfl ?_
    exact H5.out.2
end Go.Proofs.YtbnlkjoblngakaaDoor
