/- HandLacks (stage 17) over any package. (mkdk.py writes it.) -/
import Derived.Test.YtnaekjmlikhglaaDoorDj
namespace Go.Proofs.YtnaekjmlikhglaaDoor
open Go.RowKit
attribute [local go_sem] store_one B_match B_store S_match S_store

theorem exec_slice_from {P : Program} {a : Act} {o : Oper} {w : World} (t : TypeId) (x y : Operand) (ho : o.op = .slice t x (some y) none none) {e : TypeId} (ht : P.underlying t = some (.slice e)) (V I : Value) (hx : a.eval x = V) (hy : a.eval y = I) {R : Value} (h : (Instr.slice t V (some I) none none).run P w = .ok R w) : (execOp a.eval o).run P w = .ok (.value R) w := by
  have hs : (Instr.sliceAt t V (some I) none none).run P w = .ok R w := by
    unfold Instr.sliceAt
    rw [Sem.run_bind, run_underlying ht]
    exact h
  simp only [execOp, ho, hx, hy, Option.map_some, Option.map_none, Sem.run_bind, hs, Sem.run_pure, Result.andThen_ok]
theorem CellsD.below {w w' : World} {b o : Nat} {fs : DFds} (h : CellsD w b o fs) (hb : Below w.heap.size w w') : CellsD w' b o fs := fun j u hu => by
  have h1 := h j u hu
  rw [hb.cell (World.block_lt_of_cell? w _ h1)]; exact h1
structure StL (w : World) (g q : Nat) (cs : Array Value) (ac : Array Value) (W : World) : Prop where
  fr : Row W g cs 37
  rq : Row W q ac 24
  below : Below w.heap.size w W
theorem StL.next {w : World} {g q n : Nat} {cs ac : Array Value} {W W' : World} (h : StL w g q cs ac W) (hb : Below n W W') (hg : g < n) (hq : q < n) (hn : w.heap.size ≤ n) : StL w g q cs ac W' := ⟨h.fr.below hb hg, h.rq.below hb hq, h.below.trans (hb.mono hn)⟩
theorem StL.after {w : World} {g q : Nat} {cs ac : Array Value} {W W' : World} (h : StL w g q cs ac W) (hb : Below W.heap.size W W') : StL w g q cs ac W' := h.next hb h.fr.lt h.rq.lt h.below.size
theorem StL.set {w : World} {g q b : Nat} {cs ac : Array Value} {W : World} (h : StL w g q cs ac W) (hg : g ≠ b) (hq : q ≠ b) (hb : w.heap.size ≤ b) (i : Nat) (v : Value) : StL w g q cs ac (W.setCell ⟨b, i, none⟩ v) := ⟨h.fr.other hg, h.rq.other hq, h.below.setCell hb _⟩
set_option maxRecDepth 100000 in
set_option maxHeartbeats 4000000 in
theorem lacks17_any {w : World} (C : HandI w) (k : DTx) (hk : k.length = 16) (n : Nat) (hn : n < 256) (m : DTx) (v : Int) :
    Calls Tryd.prog 6 #[.agg (bcells k), .int .u8 (n : Int), S m, .int .i64 v] w fun e w' => e = .returned (.bool true) ∧ Below w.heap.size w w' := by
  have HW := Lib.hid fun (W : World) (hb : Below w.heap.size w W) => wakes17_any (C.up hb)
  obtain ⟨kc, hkc⟩ : ∃ c, c = bcells k := ⟨_, rfl⟩
  have hks : kc.size = 16 := by rw [hkc, bcells_size, hk]
  obtain ⟨ek, hek⟩ : ∃ e, e = bb.enc k := ⟨_, rfl⟩
  obtain ⟨W1, hW1⟩ : ∃ W, W = w.alloc (.cells kc 40) := ⟨_, rfl⟩
  have H1 : Hid (Row W1 w.heap.size kc 40 ∧ Below w.heap.size w W1) := Lib.hid (by rw [hW1]; exact ⟨row_new _ _ _, (Below.refl _ _).alloc (Nat.le_refl _) _⟩)
  have HT : Hid (∀ W : World, Row W w.heap.size kc 40 → (convert 42 9 (.slice (some ⟨w.heap.size, 0, none⟩) 16 16)).run Tryd.prog W = .ok (S k) W) := Lib.hid fun W h => by
    rw [hkc] at h; exact row_text16 h hk
  have HE : Hid (∀ W, Calls Tryd.prog 20 #[S k] W fun e w' => e = .returned (S ek) ∧ Below W.heap.size W w') := Lib.hid fun W => by
    rw [hek]; exact bb.encode_any k (by omega) W
  obtain ⟨ak, hak⟩ : ∃ a, a = accF ek := ⟨_, rfl⟩
  have hal := run_len_S (P := Tryd.prog) Tryd.underlying9 3 ak
  rw [show ak.length = 28 by rw [hak, acc_len]] at hal
  obtain ⟨cs, hcs⟩ : ∃ c, c = askCV ek v13D := ⟨_, rfl⟩
  have hsm : Small17 (askV ek v13D) := by rw [hek]; exact askV_small k v13D hk (by decide)
  have HCk : Hid (∀ W g, Below w.heap.size w W → Row W g cs 37 → Calls Tryd.prog 11 #[.agg #[.string ⟨#[71, 69, 84]⟩, .string ⟨#[47, 119, 115]⟩, .string ⟨#[]⟩, .int .i64 11, .slice (some ⟨g, 0, none⟩) 5 5, .string ⟨#[]⟩, .bool false]] W fun e w' => e = .returned (.tuple #[S ak, .int .i64 101]) ∧ Below W.heap.size W w') := Lib.hid fun W g hb hr => by
    rw [hcs] at hr
    have := C.check getD wsP [] 11 (.slice (some ⟨g, 0, none⟩) 5 5) [] false _ g 0 W hb (fa_askV hr) hsm
    rw [hek, check_askV k v13D hk, if_pos rfl, ← hek, ← hak] at this
    exact this
  obtain ⟨i, hi⟩ : ∃ i, i = n % 5 := ⟨_, rfl⟩
  have hi5 : i < 5 := by omega
  have HLess : Hid (∀ W base V, Below w.heap.size w W → W.ownsRow base 37 2 V (lessV ek v13D i).length (fcells (lessV ek v13D i)) → Calls Tryd.prog 11 #[.agg #[.string ⟨#[71, 69, 84]⟩, .string ⟨#[47, 119, 115]⟩, .string ⟨#[]⟩, .int .i64 11, V, .string ⟨#[]⟩, .bool false]] W fun e w' => e = .returned (.tuple #[.string ⟨#[]⟩, .int .i64 400]) ∧ Below W.heap.size W w') := Lib.hid fun W base V hb hO => by
    obtain ⟨g', hfa⟩ := CellsD.fa hO
    have := C.check getD wsP [] 11 V [] false _ g' 0 W hb hfa (less_small ek v13D i hsm)
    rw [less_check _ _ ek v13D i hi5] at this
    exact this
  obtain ⟨c2, hc2⟩ : ∃ c : Int, c = if i = 1 ∨ i = 2 then 101 else 400 := ⟨_, rfl⟩
  obtain ⟨y2, hy2⟩ : ∃ y, y = (checkF getD 11 (twiceV ek v13D i)).1 := ⟨_, rfl⟩
  have HTwice : Hid (∀ W base V, Below w.heap.size w W → W.ownsRow base 37 2 V (twiceV ek v13D i).length (fcells (twiceV ek v13D i)) → Calls Tryd.prog 11 #[.agg #[.string ⟨#[71, 69, 84]⟩, .string ⟨#[47, 119, 115]⟩, .string ⟨#[]⟩, .int .i64 11, V, .string ⟨#[]⟩, .bool false]] W fun e w' => e = .returned (.tuple #[S y2, .int .i64 c2]) ∧ Below W.heap.size W w') := Lib.hid fun W base V hb hO => by
    obtain ⟨g', hfa⟩ := CellsD.fa hO
    have := C.check getD wsP [] 11 V [] false _ g' 0 W hb hfa (twice_small ek v13D i hi5 hsm)
    have hc : c2 = (((checkF getD 11 (twiceV ek v13D i)).2 : Nat) : Int) := by
      by_cases h : i = 1 ∨ i = 2
      · rw [hc2, if_pos h, hek, twice_may k hk i h]; rfl
      · rw [hc2, if_neg h, twice_two getD 11 ek v13D i (by omega)]; rfl
    rw [hy2, hc]; exact this
  obtain ⟨c3, hc3⟩ : ∃ c : Int, c = if m = getD ∧ v = 11 then 101 else 400 := ⟨_, rfl⟩
  obtain ⟨y3, hy3⟩ : ∃ y, y = (checkF m v (askV ek v13D)).1 := ⟨_, rfl⟩
  have HOther : Hid (∀ W g, Below w.heap.size w W → Row W g cs 37 → Calls Tryd.prog 11 #[.agg #[S m, .string ⟨#[47, 119, 115]⟩, .string ⟨#[]⟩, .int .i64 v, .slice (some ⟨g, 0, none⟩) 5 5, .string ⟨#[]⟩, .bool false]] W fun e w' => e = .returned (.tuple #[S y3, .int .i64 c3]) ∧ Below W.heap.size W w') := Lib.hid fun W g hb hr => by
    rw [hcs] at hr
    have := C.check m wsP [] v (.slice (some ⟨g, 0, none⟩) 5 5) [] false _ g 0 W hb (fa_askV hr) hsm
    have hc : c3 = (((checkF m v (askV ek v13D)).2 : Nat) : Int) := by
      by_cases h : m = getD ∧ v = 11
      · rw [hc3, if_pos h, hek, other_check m v k hk, if_pos h]
        generalize accF (bb.enc k) = z
        rfl
      · rw [hc3, if_neg h, hek, other_check m v k hk, if_neg h]; rfl
    rw [hy3, hc]; exact this
  have r1 : IntKind.u8.wrap ((n : Int).tmod 5) = (i : Int) := by rw [IntKind.wrap_u8, Int.tmod_eq_emod_of_nonneg (by omega)]; omega
  have r2 : (n : Int).tmod 5 = (i : Int) := by rw [Int.tmod_eq_emod_of_nonneg (by omega)]; omega
  have r3 : (n : Int) % 5 = (i : Int) := by omega
  have r4 : IntKind.i64.wrap (i : Int) = (i : Int) := by rw [IntKind.wrap_i64]; omega
  have r5 : IntKind.i64.wrap ((i : Int) + 1) = ((i + 1 : Nat) : Int) := by rw [IntKind.wrap_i64]; omega
  have HC0 : Hid (askC.setIfInBounds 7 (S ek) = cs) := Lib.hid (by rw [hcs]; exact askC_set ek)
  have HCS : Hid (cs = askCV ek v13D) := Lib.hid hcs
  have HI : Hid (i < 5) := Lib.hid hi5
  obtain ⟨nm, hnm⟩ : ∃ x, x = nameN i := ⟨_, rfl⟩
  obtain ⟨vl, hvl⟩ : ∃ x, x = valN ek v13D i := ⟨_, rfl⟩
  obtain ⟨lw, hlw⟩ : ∃ x, x = nm.map lowB := ⟨_, rfl⟩
  have HNV : Hid (nm = nameN i ∧ vl = valN ek v13D i ∧ lw = (nameN i).map lowB) := Lib.hid ⟨hnm, hvl, by rw [hlw, hnm]⟩
  have HLow : Hid (∀ W, Calls Tryd.prog 18 #[S nm] W fun e w' => e = .returned (S lw) ∧ Below W.heap.size W w') := Lib.hid fun W => by
   rw [hlw]
   exact low17_any nm (by
    have := (hsm.each _ (List.mem_of_getElem? (askV_at ek v13D i hi5))).1
    rw [hnm]; show (nameN i).length ≤ 200000
    have h2 : (nameN i).length ≤ 200 := this
    omega) W
  have HC2 := Lib.hid hc2
  have HC3 := Lib.hid hc3
  rw [← hkc]
  clear C hkc hek hak hsm hcs hy2 hy3 hc2 hc3 hi hi5 hn hnm hvl hk hlw
  go_enter Tryd.func6, Tryd.ntmps6
  go_wp2_with fail
  rw [← hW1]
  clear hW1
  refine (asks_lit W1).mono ?_
  rintro e W2 ⟨g, rfl, hr, hg, hB⟩
  obtain ⟨W3, hW3⟩ : ∃ W, W = W2.alloc (.cells #[.string ⟨#[71, 69, 84]⟩, .string ⟨#[47, 119, 115]⟩, .string ⟨#[]⟩, .int .i64 11, .slice (some ⟨g, 0, none⟩) 5 5, .string ⟨#[]⟩, .bool false] 24) := ⟨_, rfl⟩
  obtain ⟨Wd, hWd⟩ : ∃ W, W = W3.drew := ⟨_, rfl⟩
  have hb2 := H1.out.2.trans (hB.mono H1.out.2.size)
  have HD : Hid (Row Wd w.heap.size kc 40 ∧ Row Wd W2.heap.size #[.string ⟨#[71, 69, 84]⟩, .string ⟨#[47, 119, 115]⟩, .string ⟨#[]⟩, .int .i64 11, .slice (some ⟨g, 0, none⟩) 5 5, .string ⟨#[]⟩, .bool false] 24 ∧ Row Wd g askC 37 ∧ Below w.heap.size w Wd) := Lib.hid (by
    rw [hWd, hW3]
    exact ⟨((H1.out.1.below hB H1.out.1.lt).alloc _).drew, (row_new _ _ _).drew, (hr.alloc _).drew, (hb2.alloc hb2.size _).trans ((below_drewN _ 1).mono (hb2.alloc hb2.size _).size)⟩)
  have HD0 : Hid (Row W3 w.heap.size kc 40 ∧ Row W3 W2.heap.size #[.string ⟨#[71, 69, 84]⟩, .string ⟨#[47, 119, 115]⟩, .string ⟨#[]⟩, .int .i64 11, .slice (some ⟨g, 0, none⟩) 5 5, .string ⟨#[]⟩, .bool false] 24) := Lib.hid (by
    rw [hW3]
    exact ⟨(H1.out.1.below hB H1.out.1.lt).alloc _, row_new _ _ _⟩)
  have HG : Hid (w.heap.size < g ∧ g < W2.heap.size) := Lib.hid ⟨by have := H1.out.1.lt; omega, hr.lt⟩
  have HS : Hid (∀ W : World, Row W w.heap.size kc 40 → Row W W2.heap.size #[.string ⟨#[71, 69, 84]⟩, .string ⟨#[47, 119, 115]⟩, .string ⟨#[]⟩, .int .i64 11, .slice (some ⟨g, 0, none⟩) 5 5, .string ⟨#[]⟩, .bool false] 24 → (W.cell? ⟨W2.heap.size, 4, none⟩ = some (.slice (some ⟨g, 0, none⟩) 5 5)) ∧ (convert 42 9 (.slice (some ⟨w.heap.size, 0, none⟩) 16 16)).run Tryd.prog W = .ok (S k) W) := Lib.hid fun W h1 h2 => ⟨cell_of_row W _ 4 _ _ (0, 0) h2, HT.out W h1⟩
  have ix3 : ∀ w', (Instr.indexAt 22 (.slice (some ⟨g, 0, none⟩) 5 5) (.int .i64 3)).run Tryd.prog w' = .ok (.pointer (some ⟨g, 6, none⟩)) w' := run_index_at (P := Tryd.prog) Tryd.underlying22 (fun w => Tryd.sizeOf37 w) g 0 5 5 3 (by decide)
  clear hr hg hB hb2 HT H1
  go_wp2_with fail
  rw [← hW3]
  refine wp_region_noPanic ?_
  refine wp_region_held_drew (S := fun W => (W.cell? ⟨W2.heap.size, 4, none⟩ = some (.slice (some ⟨g, 0, none⟩) 5 5)) ∧ (convert 42 9 (.slice (some ⟨w.heap.size, 0, none⟩) 16 16)).run Tryd.prog W = .ok (S k) W) (by kernel_rfl) (HS.out _ HD0.out.1 HD0.out.2) (fun _ => ?_)
  rw [← hWd]
  clear hWd hW3
  refine take_at (i := 0) (d := some 25) (v := .pointer (some ⟨W2.heap.size, 4, none⟩)) rfl (by kernel_rfl) (by kernel_rfl) (by kernel_rfl) (fun _ _ _ h => h) (fun oi ho => ?_) (HS.out _ HD.out.1 HD.out.2.1) ?_
  · obtain rfl := Option.some.inj ho
    exact Or.inl ⟨by rfl, fun wx ⟨h4, hcv⟩ => by go_simp⟩
  simp only [Act.put, List.setIfInBounds_toArray, List.set_cons_zero, List.set_cons_succ]
  refine take_at (i := 1) (d := some 26) (v := .slice (some ⟨g, 0, none⟩) 5 5) rfl (by kernel_rfl) (by kernel_rfl) (by kernel_rfl) (fun _ _ _ h => h) (fun oi ho => ?_) (HS.out _ HD.out.1 HD.out.2.1) ?_
  · obtain rfl := Option.some.inj ho
    exact Or.inl ⟨by rfl, fun wx ⟨h4, hcv⟩ => by go_simp⟩
  simp only [Act.put, List.setIfInBounds_toArray, List.set_cons_zero, List.set_cons_succ]
  refine take_at (i := 2) (d := some 27) (v := .slice (some ⟨w.heap.size, 0, none⟩) 16 16) rfl (by kernel_rfl) (by kernel_rfl) (by kernel_rfl) (fun _ _ _ h => h) (fun oi ho => ?_) (HS.out _ HD.out.1 HD.out.2.1) ?_
  · obtain rfl := Option.some.inj ho
    exact Or.inl ⟨by rfl, fun wx ⟨h4, hcv⟩ => by go_simp⟩
  simp only [Act.put, List.setIfInBounds_toArray, List.set_cons_zero, List.set_cons_succ]
  refine take_at (i := 3) (d := some 28) (v := S k) rfl (by kernel_rfl) (by kernel_rfl) (by kernel_rfl) (fun _ _ _ h => h) (fun oi ho => ?_) (HS.out _ HD.out.1 HD.out.2.1) ?_
  · obtain rfl := Option.some.inj ho
    exact Or.inl ⟨by rfl, fun wx ⟨h4, hcv⟩ => by go_simp⟩
  simp only [Act.put, List.setIfInBounds_toArray, List.set_cons_zero, List.set_cons_succ]
  refine ready_call (i := 4) (d := some 29) (f := 20) (args := #[S k]) rfl (by kernel_rfl) (fun oi ho => ?_) ?_
  · obtain rfl := Option.some.inj ho
    exact ⟨by rfl, by go_simp⟩
  refine (HE.out _).mono ?_
  rintro e W5 ⟨rfl, hB⟩
  have hk5 := HD.out.1.below hB HD.out.1.lt
  have hq5 := HD.out.2.1.below hB HD.out.2.1.lt
  have hf5 := HD.out.2.2.1.below hB HD.out.2.2.1.lt
  have hb5 := HD.out.2.2.2.trans (hB.mono HD.out.2.2.2.size)
  have z7 : W5.cell? ⟨g, 7, none⟩ = some (S keyV) := cell_of_row W5 _ 7 _ _ (0, 0) hf5
  have zf7 := Row.frozen hf5 7
  refine ⟨_, rfl, (HS.out _ hk5 hq5), ?_⟩
  simp only [Act.put, List.setIfInBounds_toArray, List.set_cons_zero, List.set_cons_succ]
  refine take_at (i := 5) (d := some 30) (v := .pointer (some ⟨g, 6, none⟩)) rfl (by kernel_rfl) (by kernel_rfl) (by kernel_rfl) (fun _ _ _ h => h) (fun oi ho => ?_) (HS.out _ hk5 hq5) ?_
  · obtain rfl := Option.some.inj ho
    exact Or.inl ⟨by rfl, fun wx ⟨h4, hcv⟩ => by go_simp⟩
  simp only [Act.put, List.setIfInBounds_toArray, List.set_cons_zero, List.set_cons_succ]
  refine take_at (i := 6) (d := some 31) (v := .pointer (some ⟨g, 7, none⟩)) rfl (by kernel_rfl) (by kernel_rfl) (by kernel_rfl) (fun _ _ _ h => h) (fun oi ho => ?_) (HS.out _ hk5 hq5) ?_
  · obtain rfl := Option.some.inj ho
    exact Or.inl ⟨by rfl, fun wx ⟨h4, hcv⟩ => by go_simp⟩
  simp only [Act.put, List.setIfInBounds_toArray, List.set_cons_zero, List.set_cons_succ]
  refine ready_skip (i := 7) (d := none) (w' := W5.setCell ⟨g, 7, none⟩ (S ek)) rfl (by kernel_rfl) (fun oi ho => ?_) (HS.out _ (hk5.other (by have := HG.out; show w.heap.size ≠ g; omega)) (hq5.other (by have := HG.out; show W2.heap.size ≠ g; omega))) ?_
  · obtain rfl := Option.some.inj ho
    exact ⟨by rfl, by go_simp⟩
  refine wpAnyH_done (by kernel_rfl) ?_ _
  refine NoPanic.normal ?_
  try simp only [Act.put]
  obtain ⟨W6, hW6⟩ : ∃ W, W = W5.setCell ⟨g, 7, none⟩ (S ek) := ⟨_, rfl⟩
  have H6 : Hid (StL w g W2.heap.size cs #[.string ⟨#[71, 69, 84]⟩, .string ⟨#[47, 119, 115]⟩, .string ⟨#[]⟩, .int .i64 11, .slice (some ⟨g, 0, none⟩) 5 5, .string ⟨#[]⟩, .bool false] W6) := Lib.hid (by
    rw [hW6]
    exact ⟨by rw [← HC0.out]; exact hf5.set 7 _, hq5.other (by have := HG.out; show W2.heap.size ≠ g; omega), hb5.setCell (by have := HG.out; show w.heap.size ≤ g; omega) _⟩)
  have h6 := H6.out.rq
  have q0 : W6.cell? ⟨W2.heap.size, 0, none⟩ = some (.string ⟨#[71, 69, 84]⟩) := cell_of_row W6 _ 0 _ _ (0, 0) h6
  have q1 : W6.cell? ⟨W2.heap.size, 1, none⟩ = some (.string ⟨#[47, 119, 115]⟩) := cell_of_row W6 _ 1 _ _ (0, 0) h6
  have q2 : W6.cell? ⟨W2.heap.size, 2, none⟩ = some (.string ⟨#[]⟩) := cell_of_row W6 _ 2 _ _ (0, 0) h6
  have q3 : W6.cell? ⟨W2.heap.size, 3, none⟩ = some (.int .i64 11) := cell_of_row W6 _ 3 _ _ (0, 0) h6
  have q4 : W6.cell? ⟨W2.heap.size, 4, none⟩ = some (.slice (some ⟨g, 0, none⟩) 5 5) := cell_of_row W6 _ 4 _ _ (0, 0) h6
  have q5 : W6.cell? ⟨W2.heap.size, 5, none⟩ = some (.string ⟨#[]⟩) := cell_of_row W6 _ 5 _ _ (0, 0) h6
  have q6 : W6.cell? ⟨W2.heap.size, 6, none⟩ = some (.bool false) := cell_of_row W6 _ 6 _ _ (0, 0) h6
  rw [← hW6]
  clear hB hk5 hq5 hf5 hb5 z7 zf7 hW6 HD HS HE HD0 ix3 h6 HC0
  go_wp2_with fail
  clear q0 q1 q2 q3 q4 q5 q6
  refine (HCk.out W6 g H6.out.below H6.out.fr).mono ?_
  rintro e W7 ⟨rfl, hB⟩
  have H7 := Lib.hid (H6.out.after hB)
  have h7 := H7.out.rq
  have q0 : W7.cell? ⟨W2.heap.size, 0, none⟩ = some (.string ⟨#[71, 69, 84]⟩) := cell_of_row W7 _ 0 _ _ (0, 0) h7
  have q1 : W7.cell? ⟨W2.heap.size, 1, none⟩ = some (.string ⟨#[47, 119, 115]⟩) := cell_of_row W7 _ 1 _ _ (0, 0) h7
  have q2 : W7.cell? ⟨W2.heap.size, 2, none⟩ = some (.string ⟨#[]⟩) := cell_of_row W7 _ 2 _ _ (0, 0) h7
  have q3 : W7.cell? ⟨W2.heap.size, 3, none⟩ = some (.int .i64 11) := cell_of_row W7 _ 3 _ _ (0, 0) h7
  have q4 : W7.cell? ⟨W2.heap.size, 4, none⟩ = some (.slice (some ⟨g, 0, none⟩) 5 5) := cell_of_row W7 _ 4 _ _ (0, 0) h7
  have q5 : W7.cell? ⟨W2.heap.size, 5, none⟩ = some (.string ⟨#[]⟩) := cell_of_row W7 _ 5 _ _ (0, 0) h7
  have q6 : W7.cell? ⟨W2.heap.size, 6, none⟩ = some (.bool false) := cell_of_row W7 _ 6 _ _ (0, 0) h7
  obtain ⟨W8, hW8⟩ : ∃ W, W = W7.alloc (.cells #[.string ⟨#[71, 69, 84]⟩, .string ⟨#[47, 119, 115]⟩, .string ⟨#[]⟩, .int .i64 11, .slice (some ⟨g, 0, none⟩) 5 5, .string ⟨#[]⟩, .bool false] 24) := ⟨_, rfl⟩
  obtain ⟨Wq, hWq⟩ : ∃ W, W = W8.drew := ⟨_, rfl⟩
  have h8 : StL w g W2.heap.size cs #[.string ⟨#[71, 69, 84]⟩, .string ⟨#[47, 119, 115]⟩, .string ⟨#[]⟩, .int .i64 11, .slice (some ⟨g, 0, none⟩) 5 5, .string ⟨#[]⟩, .bool false] W8 := by rw [hW8]; exact H7.out.after ((Below.refl _ _).alloc (Nat.le_refl _) _)
  have H8 := Lib.hid h8
  have H9 : Hid (StL w g W2.heap.size cs #[.string ⟨#[71, 69, 84]⟩, .string ⟨#[47, 119, 115]⟩, .string ⟨#[]⟩, .int .i64 11, .slice (some ⟨g, 0, none⟩) 5 5, .string ⟨#[]⟩, .bool false] Wq ∧ Row Wq W7.heap.size #[.string ⟨#[71, 69, 84]⟩, .string ⟨#[47, 119, 115]⟩, .string ⟨#[]⟩, .int .i64 11, .slice (some ⟨g, 0, none⟩) 5 5, .string ⟨#[]⟩, .bool false] 24 ∧ g < W7.heap.size ∧ W2.heap.size < W7.heap.size) := Lib.hid (by
    rw [hWq]
    exact ⟨h8.next (below_drewN W8 1) h8.fr.lt h8.rq.lt h8.below.size, by rw [hW8]; exact (row_new _ _ _).drew, H7.out.fr.lt, H7.out.rq.lt⟩)
  have HS : Hid (∀ W : World, Row W W2.heap.size #[.string ⟨#[71, 69, 84]⟩, .string ⟨#[47, 119, 115]⟩, .string ⟨#[]⟩, .int .i64 11, .slice (some ⟨g, 0, none⟩) 5 5, .string ⟨#[]⟩, .bool false] 24 → W.cell? ⟨W2.heap.size, 4, none⟩ = some (.slice (some ⟨g, 0, none⟩) 5 5)) := Lib.hid fun W h => cell_of_row W _ 4 _ _ (0, 0) h
  clear hB h7 h8 H6 HCk
  obtain ⟨o, hso, ho⟩ := slice5_from g i (i + 1) HI.out rfl
  have hst := slice5_to g i HI.out
  have HA8 : ∃ a n9 c a2 n10 c2 W9 W10, (Builtin.append_ #[22, 22] 22 #[.slice (some ⟨Wq.heap.size, 0, none⟩) 0 0, .slice (some ⟨g, 0, none⟩) i 5]).run Tryd.prog (Wq.alloc (.cells #[] 37)) = .ok (.slice a n9 c) W9 ∧ (Builtin.append_ #[22, 22] 22 #[.slice a n9 c, .slice (some ⟨g, o, none⟩) (5 - (i + 1)) (5 - (i + 1))]).run Tryd.prog W9 = .ok (.slice a2 n10 c2) W10 ∧ Hid (Below Wq.heap.size Wq W9 ∧ Below Wq.heap.size W9 W10 ∧ W10.ownsRow Wq.heap.size 37 2 (.slice a2 n10 c2) (lessV ek v13D i).length (fcells (lessV ek v13D i))) := by
    have hcd : CellsD Wq g 0 (askV ek v13D) := CellsD.of_row H9.out.1.fr (by rw [HCS.out]; rfl)
    have hb0 : Below Wq.heap.size Wq (Wq.alloc (.cells #[] 37)) := (Below.refl _ _).alloc (Nat.le_refl _) _
    have hcd1 := hcd.below hb0
    have hi5 := HI.out
    obtain ⟨a, c, W9, hr9, hO9, hB9⟩ := run_addD (own_empty Wq) (by decide) (by rw [alloc_size]; omega) (hcd1.take i) (by rw [List.length_take]; show min i 5 ≤ 1000; omega) i 5 (by rw [List.length_take]; show i = min i 5; omega) 22
    have hb9 := hb0.trans hB9
    have hcd2 : CellsD W9 g o ((askV ek v13D).drop (i + 1)) := by
      rcases ho with ho | ho
      · rw [ho]; exact (hcd.below hb9).drop (i + 1) (by show i + 1 ≤ 5; omega)
      · rw [ho, List.drop_of_length_le (by show (5 : Nat) ≤ 5; omega)]; exact CellsD.none _ _ _
    obtain ⟨a2, c2, W10, hr10, hO10, hB10⟩ := run_addD hO9 (by rw [List.nil_append, List.length_take]; show min i 5 ≤ 1000; omega) hb9.size hcd2 (by rw [List.length_drop]; show 5 - (i + 1) ≤ 1000; omega) (5 - (i + 1)) (5 - (i + 1)) (by rw [List.length_drop]; rfl) 22
    exact ⟨a, _, c, a2, _, c2, W9, W10, hr9, hr10, Lib.hid ⟨hb9, hB10, hO10⟩⟩
  obtain ⟨a8, n9, c8, a9, n10, c9, W9, W10, hap1, hap2, HB10⟩ := HA8
  have h10 : StL w g W2.heap.size cs #[.string ⟨#[71, 69, 84]⟩, .string ⟨#[47, 119, 115]⟩, .string ⟨#[]⟩, .int .i64 11, .slice (some ⟨g, 0, none⟩) 5 5, .string ⟨#[]⟩, .bool false] W10 := (H9.out.1.next HB10.out.1 H9.out.1.fr.lt H9.out.1.rq.lt H9.out.1.below.size).next HB10.out.2.1 H9.out.1.fr.lt H9.out.1.rq.lt H9.out.1.below.size
  have he10 : Row W10 W7.heap.size #[.string ⟨#[71, 69, 84]⟩, .string ⟨#[47, 119, 115]⟩, .string ⟨#[]⟩, .int .i64 11, .slice (some ⟨g, 0, none⟩) 5 5, .string ⟨#[]⟩, .bool false] 24 := (H9.out.2.1.below HB10.out.1 H9.out.2.1.lt).below HB10.out.2.1 H9.out.2.1.lt
  have z4 : W10.cell? ⟨W7.heap.size, 4, none⟩ = some (.slice (some ⟨g, 0, none⟩) 5 5) := cell_of_row W10 _ 4 _ _ (0, 0) he10
  have zf4 := Row.frozen he10 4
  have HR0 : Hid (Row W8 W2.heap.size #[.string ⟨#[71, 69, 84]⟩, .string ⟨#[47, 119, 115]⟩, .string ⟨#[]⟩, .int .i64 11, .slice (some ⟨g, 0, none⟩) 5 5, .string ⟨#[]⟩, .bool false] 24 ∧ Row Wq W2.heap.size #[.string ⟨#[71, 69, 84]⟩, .string ⟨#[47, 119, 115]⟩, .string ⟨#[]⟩, .int .i64 11, .slice (some ⟨g, 0, none⟩) 5 5, .string ⟨#[]⟩, .bool false] 24 ∧ Row (Wq.alloc (.cells #[] 37)) W2.heap.size #[.string ⟨#[71, 69, 84]⟩, .string ⟨#[47, 119, 115]⟩, .string ⟨#[]⟩, .int .i64 11, .slice (some ⟨g, 0, none⟩) 5 5, .string ⟨#[]⟩, .bool false] 24 ∧ Row W9 W2.heap.size #[.string ⟨#[71, 69, 84]⟩, .string ⟨#[47, 119, 115]⟩, .string ⟨#[]⟩, .int .i64 11, .slice (some ⟨g, 0, none⟩) 5 5, .string ⟨#[]⟩, .bool false] 24 ∧ Row W10 W2.heap.size #[.string ⟨#[71, 69, 84]⟩, .string ⟨#[47, 119, 115]⟩, .string ⟨#[]⟩, .int .i64 11, .slice (some ⟨g, 0, none⟩) 5 5, .string ⟨#[]⟩, .bool false] 24 ∧ Row (W10.setCell ⟨W7.heap.size, 4, none⟩ (.slice a9 n10 c9)) W2.heap.size #[.string ⟨#[71, 69, 84]⟩, .string ⟨#[47, 119, 115]⟩, .string ⟨#[]⟩, .int .i64 11, .slice (some ⟨g, 0, none⟩) 5 5, .string ⟨#[]⟩, .bool false] 24) := Lib.hid ⟨H8.out.rq, H9.out.1.rq, H9.out.1.rq.alloc _, H9.out.1.rq.below HB10.out.1 H9.out.1.rq.lt, h10.rq, h10.rq.other (by have := H9.out.2.2.2; show W2.heap.size ≠ W7.heap.size; omega)⟩
  go_wp2_with fail
  rw [← hW8]
  refine wp_region_noPanic ?_
  refine wp_region_held_drew (S := fun W => W.cell? ⟨W2.heap.size, 4, none⟩ = some (.slice (some ⟨g, 0, none⟩) 5 5)) (by kernel_rfl) (HS.out _ HR0.out.1) (fun _ => ?_)
  rw [← hWq]
  clear hWq hW8
  refine take_at (i := 1) (d := some 49) (v := .pointer (some ⟨W2.heap.size, 4, none⟩)) rfl (by kernel_rfl) (by kernel_rfl) (by kernel_rfl) (fun _ _ _ h => h) (fun oi ho => ?_) (HS.out _ HR0.out.2.1) ?_
  · obtain rfl := Option.some.inj ho
    exact Or.inl ⟨by rfl, fun wx h4 => by go_simp⟩
  simp only [Act.put, List.setIfInBounds_toArray, List.set_cons_zero, List.set_cons_succ]
  refine take_at (i := 2) (d := some 50) (v := .slice (some ⟨g, 0, none⟩) 5 5) rfl (by kernel_rfl) (by kernel_rfl) (by kernel_rfl) (fun _ _ _ h => h) (fun oi ho => ?_) (HS.out _ HR0.out.2.1) ?_
  · obtain rfl := Option.some.inj ho
    exact Or.inl ⟨by rfl, fun wx h4 => by go_simp⟩
  simp only [Act.put, List.setIfInBounds_toArray, List.set_cons_zero, List.set_cons_succ]
  refine take_at (i := 3) (d := some 51) (v := .int .i64 (i : Int)) rfl (by kernel_rfl) (by kernel_rfl) (by kernel_rfl) (fun _ _ _ h => h) (fun oi ho => ?_) (HS.out _ HR0.out.2.1) ?_
  · obtain rfl := Option.some.inj ho
    exact Or.inl ⟨by rfl, fun wx h4 => by go_simp⟩
  simp only [Act.put, List.setIfInBounds_toArray, List.set_cons_zero, List.set_cons_succ]
  refine take_at (i := 4) (d := some 52) (v := .slice (some ⟨g, 0, none⟩) i 5) rfl (by kernel_rfl) (by kernel_rfl) (by kernel_rfl) (fun _ _ _ h => h) (fun oi ho => ?_) (HS.out _ HR0.out.2.1) ?_
  · obtain rfl := Option.some.inj ho
    exact Or.inl ⟨by rfl, fun wx h4 => by go_simp⟩
  simp only [Act.put, List.setIfInBounds_toArray, List.set_cons_zero, List.set_cons_succ]
  refine take_at (i := 6) (d := some 54) (v := .pointer (some ⟨W2.heap.size, 4, none⟩)) rfl (by kernel_rfl) (by kernel_rfl) (by kernel_rfl) (fun _ _ _ h => h) (fun oi ho => ?_) (HS.out _ HR0.out.2.1) ?_
  · obtain rfl := Option.some.inj ho
    exact Or.inl ⟨by rfl, fun wx h4 => by go_simp⟩
  simp only [Act.put, List.setIfInBounds_toArray, List.set_cons_zero, List.set_cons_succ]
  refine take_at (i := 7) (d := some 55) (v := .slice (some ⟨g, 0, none⟩) 5 5) rfl (by kernel_rfl) (by kernel_rfl) (by kernel_rfl) (fun _ _ _ h => h) (fun oi ho => ?_) (HS.out _ HR0.out.2.1) ?_
  · obtain rfl := Option.some.inj ho
    exact Or.inl ⟨by rfl, fun wx h4 => by go_simp⟩
  simp only [Act.put, List.setIfInBounds_toArray, List.set_cons_zero, List.set_cons_succ]
  refine take_at (i := 8) (d := some 56) (v := .int .i64 (i : Int)) rfl (by kernel_rfl) (by kernel_rfl) (by kernel_rfl) (fun _ _ _ h => h) (fun oi ho => ?_) (HS.out _ HR0.out.2.1) ?_
  · obtain rfl := Option.some.inj ho
    exact Or.inl ⟨by rfl, fun wx h4 => by go_simp⟩
  simp only [Act.put, List.setIfInBounds_toArray, List.set_cons_zero, List.set_cons_succ]
  refine take_at (i := 9) (d := some 57) (v := .int .i64 ((i + 1 : Nat) : Int)) rfl (by kernel_rfl) (by kernel_rfl) (by kernel_rfl) (fun _ _ _ h => h) (fun oi ho => ?_) (HS.out _ HR0.out.2.1) ?_
  · obtain rfl := Option.some.inj ho
    exact Or.inl ⟨by rfl, fun wx h4 => by go_simp⟩
  simp only [Act.put, List.setIfInBounds_toArray, List.set_cons_zero, List.set_cons_succ]
  refine take_at (i := 10) (d := some 58) (v := .slice (some ⟨g, o, none⟩) (5 - (i + 1)) (5 - (i + 1))) rfl (by kernel_rfl) (by kernel_rfl) (by kernel_rfl) (fun _ _ _ h => h) (fun oi ho => ?_) (HS.out _ HR0.out.2.1) ?_
  · obtain rfl := Option.some.inj ho
    exact Or.inl ⟨by rfl, fun wx h4 => exec_slice_from 22 (.tmp 55) (.tmp 57) rfl Tryd.underlying22 _ _ rfl rfl (hso wx)⟩
  simp only [Act.put, List.setIfInBounds_toArray, List.set_cons_zero, List.set_cons_succ]
  refine ready_value (i := 0) (d := some 48) (v := .slice (some ⟨Wq.heap.size, 0, none⟩) 0 0) (w' := Wq.alloc (.cells #[] 37)) rfl (by kernel_rfl) (fun oi ho => ?_) (HS.out _ HR0.out.2.2.1) ?_
  · obtain rfl := Option.some.inj ho
    exact ⟨by rfl, by go_simp⟩
  simp only [Act.put, List.setIfInBounds_toArray, List.set_cons_zero, List.set_cons_succ]
  refine ready_value (i := 5) (d := some 53) (v := .slice a8 n9 c8) (w' := W9) rfl (by kernel_rfl) (fun oi ho => ?_) (HS.out _ HR0.out.2.2.2.1) ?_
  · obtain rfl := Option.some.inj ho
    exact ⟨by rfl, exec_append 22 22 (.tmp 48) (.tmp 52) _ _ rfl rfl rfl hap1⟩
  simp only [Act.put, List.setIfInBounds_toArray, List.set_cons_zero, List.set_cons_succ]
  refine ready_value (i := 11) (d := some 59) (v := .slice a9 n10 c9) (w' := W10) rfl (by kernel_rfl) (fun oi ho => ?_) (HS.out _ HR0.out.2.2.2.2.1) ?_
  · obtain rfl := Option.some.inj ho
    exact ⟨by rfl, exec_append 22 22 (.tmp 53) (.tmp 58) _ _ rfl rfl rfl hap2⟩
  simp only [Act.put, List.setIfInBounds_toArray, List.set_cons_zero, List.set_cons_succ]
  refine take_at (i := 12) (d := some 60) (v := .pointer (some ⟨W7.heap.size, 4, none⟩)) rfl (by kernel_rfl) (by kernel_rfl) (by kernel_rfl) (fun _ _ _ h => h) (fun oi ho => ?_) (HS.out _ HR0.out.2.2.2.2.1) ?_
  · obtain rfl := Option.some.inj ho
    exact Or.inl ⟨by rfl, fun wx h4 => by go_simp⟩
  simp only [Act.put, List.setIfInBounds_toArray, List.set_cons_zero, List.set_cons_succ]
  refine ready_skip (i := 13) (d := none) (w' := W10.setCell ⟨W7.heap.size, 4, none⟩ (.slice a9 n10 c9)) rfl (by kernel_rfl) (fun oi ho => ?_) (HS.out _ HR0.out.2.2.2.2.2) ?_
  · obtain rfl := Option.some.inj ho
    exact ⟨by rfl, by go_simp⟩
  refine wpAnyH_done (by kernel_rfl) ?_ _
  refine NoPanic.normal ?_
  try simp only [Act.put]
  obtain ⟨V10, hV10⟩ : ∃ V, V = Value.slice a9 n10 c9 := ⟨_, rfl⟩
  rw [← hV10] at HB10 HR0
  have hne : W2.heap.size ≠ W7.heap.size := by have := H9.out.2.2.2; omega
  obtain ⟨W11, hW11⟩ : ∃ W, W = W10.setCell ⟨W7.heap.size, 4, none⟩ V10 := ⟨_, rfl⟩
  have h11 : StL w g W2.heap.size cs #[.string ⟨#[71, 69, 84]⟩, .string ⟨#[47, 119, 115]⟩, .string ⟨#[]⟩, .int .i64 11, .slice (some ⟨g, 0, none⟩) 5 5, .string ⟨#[]⟩, .bool false] W11 := by rw [hW11]; exact h10.set (by have := H9.out.2.2.1; omega) hne H7.out.below.size 4 _
  have he11 : Row W11 W7.heap.size #[.string ⟨#[71, 69, 84]⟩, .string ⟨#[47, 119, 115]⟩, .string ⟨#[]⟩, .int .i64 11, V10, .string ⟨#[]⟩, .bool false] 24 := by rw [hW11]; exact he10.set 4 V10
  have hO11 : W11.ownsRow Wq.heap.size 37 2 V10 (lessV ek v13D i).length (fcells (lessV ek v13D i)) := by rw [hW11]; exact row_own_set HB10.out.2.2 H9.out.2.1.lt
  have H11 := Lib.hid (And.intro h11 hO11)
  have d0 : W11.cell? ⟨W7.heap.size, 0, none⟩ = some (.string ⟨#[71, 69, 84]⟩) := cell_of_row W11 _ 0 _ _ (0, 0) he11
  have d1 : W11.cell? ⟨W7.heap.size, 1, none⟩ = some (.string ⟨#[47, 119, 115]⟩) := cell_of_row W11 _ 1 _ _ (0, 0) he11
  have d2 : W11.cell? ⟨W7.heap.size, 2, none⟩ = some (.string ⟨#[]⟩) := cell_of_row W11 _ 2 _ _ (0, 0) he11
  have d3 : W11.cell? ⟨W7.heap.size, 3, none⟩ = some (.int .i64 11) := cell_of_row W11 _ 3 _ _ (0, 0) he11
  have d4 : W11.cell? ⟨W7.heap.size, 4, none⟩ = some (V10) := cell_of_row W11 _ 4 _ _ (0, 0) he11
  have d5 : W11.cell? ⟨W7.heap.size, 5, none⟩ = some (.string ⟨#[]⟩) := cell_of_row W11 _ 5 _ _ (0, 0) he11
  have d6 : W11.cell? ⟨W7.heap.size, 6, none⟩ = some (.bool false) := cell_of_row W11 _ 6 _ _ (0, 0) he11
  rw [← hV10]
  rw [← hW11]
  clear hV10 hne hW11 h11 he11 hO11 HR0 h10 he10 z4 zf4 HB10 hap1 hap2 H8 H9 hso hst ho
  go_wp2_with fail
  refine (HLess.out W11 _ V10 H11.out.1.below H11.out.2).mono ?_
  rintro e W12 ⟨rfl, hB⟩
  have H12 := Lib.hid (H11.out.1.after hB)
  have h12 := H12.out.rq
  have p0 : W12.cell? ⟨W2.heap.size, 0, none⟩ = some (.string ⟨#[71, 69, 84]⟩) := cell_of_row W12 _ 0 _ _ (0, 0) h12
  have p1 : W12.cell? ⟨W2.heap.size, 1, none⟩ = some (.string ⟨#[47, 119, 115]⟩) := cell_of_row W12 _ 1 _ _ (0, 0) h12
  have p2 : W12.cell? ⟨W2.heap.size, 2, none⟩ = some (.string ⟨#[]⟩) := cell_of_row W12 _ 2 _ _ (0, 0) h12
  have p3 : W12.cell? ⟨W2.heap.size, 3, none⟩ = some (.int .i64 11) := cell_of_row W12 _ 3 _ _ (0, 0) h12
  have p4 : W12.cell? ⟨W2.heap.size, 4, none⟩ = some (.slice (some ⟨g, 0, none⟩) 5 5) := cell_of_row W12 _ 4 _ _ (0, 0) h12
  have p5 : W12.cell? ⟨W2.heap.size, 5, none⟩ = some (.string ⟨#[]⟩) := cell_of_row W12 _ 5 _ _ (0, 0) h12
  have p6 : W12.cell? ⟨W2.heap.size, 6, none⟩ = some (.bool false) := cell_of_row W12 _ 6 _ _ (0, 0) h12
  obtain ⟨W13, hW13⟩ : ∃ W, W = W12.alloc (.cells #[.string ⟨#[71, 69, 84]⟩, .string ⟨#[47, 119, 115]⟩, .string ⟨#[]⟩, .int .i64 11, .slice (some ⟨g, 0, none⟩) 5 5, .string ⟨#[]⟩, .bool false] 24) := ⟨_, rfl⟩
  obtain ⟨Wr, hWr⟩ : ∃ W, W = W13.drew := ⟨_, rfl⟩
  have h13 : StL w g W2.heap.size cs #[.string ⟨#[71, 69, 84]⟩, .string ⟨#[47, 119, 115]⟩, .string ⟨#[]⟩, .int .i64 11, .slice (some ⟨g, 0, none⟩) 5 5, .string ⟨#[]⟩, .bool false] W13 := by rw [hW13]; exact H12.out.after ((Below.refl _ _).alloc (Nat.le_refl _) _)
  have H13 := Lib.hid h13
  have H14 : Hid (StL w g W2.heap.size cs #[.string ⟨#[71, 69, 84]⟩, .string ⟨#[47, 119, 115]⟩, .string ⟨#[]⟩, .int .i64 11, .slice (some ⟨g, 0, none⟩) 5 5, .string ⟨#[]⟩, .bool false] Wr ∧ Row Wr W12.heap.size #[.string ⟨#[71, 69, 84]⟩, .string ⟨#[47, 119, 115]⟩, .string ⟨#[]⟩, .int .i64 11, .slice (some ⟨g, 0, none⟩) 5 5, .string ⟨#[]⟩, .bool false] 24 ∧ g < W12.heap.size ∧ W2.heap.size < W12.heap.size) := Lib.hid (by
    rw [hWr]
    exact ⟨h13.next (below_drewN W13 1) h13.fr.lt h13.rq.lt h13.below.size, by rw [hW13]; exact (row_new _ _ _).drew, H12.out.fr.lt, H12.out.rq.lt⟩)
  clear hB h12 h13 H11 HLess HS d0 d1 d2 d3 d4 d5 d6
  obtain ⟨p, hp⟩ : ∃ p, p = 0 + i * 2 := ⟨_, rfl⟩
  have hix : ∀ w', (Instr.indexAt 22 (.slice (some ⟨g, 0, none⟩) 5 5) (.int .i64 (i : Int))).run Tryd.prog w' = .ok (.pointer (some ⟨g, p, none⟩)) w' := by rw [hp]; exact run_index_at (P := Tryd.prog) Tryd.underlying22 (fun w => Tryd.sizeOf37 w) g 0 5 5 i HI.out
  have HS : Hid (∀ W : World, Row W g cs 37 → Row W W2.heap.size #[.string ⟨#[71, 69, 84]⟩, .string ⟨#[47, 119, 115]⟩, .string ⟨#[]⟩, .int .i64 11, .slice (some ⟨g, 0, none⟩) 5 5, .string ⟨#[]⟩, .bool false] 24 → (W.cell? ⟨W2.heap.size, 4, none⟩ = some (.slice (some ⟨g, 0, none⟩) 5 5)) ∧ (W.cell? ⟨g, p, none⟩ = some (S nm)) ∧ (W.cell? ⟨g, p + 1, none⟩ = some (S vl))) := Lib.hid fun W h1 h2 => by
    rw [HCS.out] at h1
    obtain ⟨x1, x2⟩ := (fa_askV h1).cell i _ (askV_at ek v13D i HI.out)
    rw [HNV.out.1, HNV.out.2.1, hp]
    exact ⟨cell_of_row W _ 4 _ _ (0, 0) h2, x1, x2⟩
  have HA : ∃ a n c W14, (Builtin.append_ #[22, 22] 22 #[.slice (some ⟨Wr.heap.size, 0, none⟩) 0 0, .slice (some ⟨g, 0, none⟩) 5 5]).run Tryd.prog (Wr.alloc (.cells #[] 37)) = .ok (.slice a n c) W14 ∧ Hid (Below Wr.heap.size Wr W14 ∧ n = (askV ek v13D).length ∧ W14.ownsRow Wr.heap.size 37 2 (.slice a n c) (askV ek v13D).length (fcells (askV ek v13D))) := by
    have hcd : CellsD Wr g 0 (askV ek v13D) := CellsD.of_row H14.out.1.fr (by rw [HCS.out]; rfl)
    have hb0 : Below Wr.heap.size Wr (Wr.alloc (.cells #[] 37)) := (Below.refl _ _).alloc (Nat.le_refl _) _
    obtain ⟨a, c, W9, hr9, hO9, hB9⟩ := run_addD (own_empty Wr) (by decide) (by rw [alloc_size]; omega) (hcd.below hb0) (by show (5 : Nat) ≤ 1000; decide) 5 5 rfl 22
    exact ⟨a, _, c, W9, hr9, Lib.hid ⟨hb0.trans hB9, rfl, hO9⟩⟩
  obtain ⟨a13, n13, c13, W14, hap1, HB14⟩ := HA
  have HR : Hid (Row W13 g cs 37 ∧ Row W13 W2.heap.size #[.string ⟨#[71, 69, 84]⟩, .string ⟨#[47, 119, 115]⟩, .string ⟨#[]⟩, .int .i64 11, .slice (some ⟨g, 0, none⟩) 5 5, .string ⟨#[]⟩, .bool false] 24 ∧ Row (Wr.alloc (.cells #[] 37)) g cs 37 ∧ Row (Wr.alloc (.cells #[] 37)) W2.heap.size #[.string ⟨#[71, 69, 84]⟩, .string ⟨#[47, 119, 115]⟩, .string ⟨#[]⟩, .int .i64 11, .slice (some ⟨g, 0, none⟩) 5 5, .string ⟨#[]⟩, .bool false] 24 ∧ StL w g W2.heap.size cs #[.string ⟨#[71, 69, 84]⟩, .string ⟨#[47, 119, 115]⟩, .string ⟨#[]⟩, .int .i64 11, .slice (some ⟨g, 0, none⟩) 5 5, .string ⟨#[]⟩, .bool false] W14 ∧ Row W14 W12.heap.size #[.string ⟨#[71, 69, 84]⟩, .string ⟨#[47, 119, 115]⟩, .string ⟨#[]⟩, .int .i64 11, .slice (some ⟨g, 0, none⟩) 5 5, .string ⟨#[]⟩, .bool false] 24) := Lib.hid ⟨H13.out.fr, H13.out.rq, H14.out.1.fr.alloc _, H14.out.1.rq.alloc _, H14.out.1.next HB14.out.1 H14.out.1.fr.lt H14.out.1.rq.lt H14.out.1.below.size, H14.out.2.1.below HB14.out.1 H14.out.2.1.lt⟩
  clear hp
  go_wp2_with fail
  rw [← hW13]
  refine wp_region_noPanic ?_
  refine wp_region_held_drew (S := fun W => (W.cell? ⟨W2.heap.size, 4, none⟩ = some (.slice (some ⟨g, 0, none⟩) 5 5)) ∧ (W.cell? ⟨g, p, none⟩ = some (S nm)) ∧ (W.cell? ⟨g, p + 1, none⟩ = some (S vl))) (by kernel_rfl) (HS.out _ HR.out.1 HR.out.2.1) (fun _ => ?_)
  rw [← hWr]
  clear hWr hW13
  refine take_at (i := 1) (d := some 68) (v := .pointer (some ⟨W2.heap.size, 4, none⟩)) rfl (by kernel_rfl) (by kernel_rfl) (by kernel_rfl) (fun _ _ _ h => h) (fun oi ho => ?_) (HS.out _ H14.out.1.fr H14.out.1.rq) ?_
  · obtain rfl := Option.some.inj ho
    exact Or.inl ⟨by rfl, fun wx ⟨h4, h5, h6⟩ => by go_simp⟩
  simp only [Act.put, List.setIfInBounds_toArray, List.set_cons_zero, List.set_cons_succ]
  refine take_at (i := 2) (d := some 69) (v := .slice (some ⟨g, 0, none⟩) 5 5) rfl (by kernel_rfl) (by kernel_rfl) (by kernel_rfl) (fun _ _ _ h => h) (fun oi ho => ?_) (HS.out _ H14.out.1.fr H14.out.1.rq) ?_
  · obtain rfl := Option.some.inj ho
    exact Or.inl ⟨by rfl, fun wx ⟨h4, h5, h6⟩ => by go_simp⟩
  simp only [Act.put, List.setIfInBounds_toArray, List.set_cons_zero, List.set_cons_succ]
  refine take_at (i := 4) (d := some 71) (v := .pointer (some ⟨W2.heap.size, 4, none⟩)) rfl (by kernel_rfl) (by kernel_rfl) (by kernel_rfl) (fun _ _ _ h => h) (fun oi ho => ?_) (HS.out _ H14.out.1.fr H14.out.1.rq) ?_
  · obtain rfl := Option.some.inj ho
    exact Or.inl ⟨by rfl, fun wx ⟨h4, h5, h6⟩ => by go_simp⟩
  simp only [Act.put, List.setIfInBounds_toArray, List.set_cons_zero, List.set_cons_succ]
  refine take_at (i := 5) (d := some 72) (v := .slice (some ⟨g, 0, none⟩) 5 5) rfl (by kernel_rfl) (by kernel_rfl) (by kernel_rfl) (fun _ _ _ h => h) (fun oi ho => ?_) (HS.out _ H14.out.1.fr H14.out.1.rq) ?_
  · obtain rfl := Option.some.inj ho
    exact Or.inl ⟨by rfl, fun wx ⟨h4, h5, h6⟩ => by go_simp⟩
  simp only [Act.put, List.setIfInBounds_toArray, List.set_cons_zero, List.set_cons_succ]
  refine take_at (i := 6) (d := some 73) (v := .int .i64 (i : Int)) rfl (by kernel_rfl) (by kernel_rfl) (by kernel_rfl) (fun _ _ _ h => h) (fun oi ho => ?_) (HS.out _ H14.out.1.fr H14.out.1.rq) ?_
  · obtain rfl := Option.some.inj ho
    exact Or.inl ⟨by rfl, fun wx ⟨h4, h5, h6⟩ => by go_simp⟩
  simp only [Act.put, List.setIfInBounds_toArray, List.set_cons_zero, List.set_cons_succ]
  refine take_at (i := 7) (d := some 74) (v := .pointer (some ⟨g, p, none⟩)) rfl (by kernel_rfl) (by kernel_rfl) (by kernel_rfl) (fun _ _ _ h => h) (fun oi ho => ?_) (HS.out _ H14.out.1.fr H14.out.1.rq) ?_
  · obtain rfl := Option.some.inj ho
    exact Or.inl ⟨by rfl, fun wx ⟨h4, h5, h6⟩ => by go_simp⟩
  simp only [Act.put, List.setIfInBounds_toArray, List.set_cons_zero, List.set_cons_succ]
  refine take_at (i := 8) (d := some 75) (v := .pointer (some ⟨g, p, none⟩)) rfl (by kernel_rfl) (by kernel_rfl) (by kernel_rfl) (fun _ _ _ h => h) (fun oi ho => ?_) (HS.out _ H14.out.1.fr H14.out.1.rq) ?_
  · obtain rfl := Option.some.inj ho
    exact Or.inl ⟨by rfl, fun wx ⟨h4, h5, h6⟩ => by go_simp⟩
  simp only [Act.put, List.setIfInBounds_toArray, List.set_cons_zero, List.set_cons_succ]
  refine take_at (i := 9) (d := some 76) (v := S nm) rfl (by kernel_rfl) (by kernel_rfl) (by kernel_rfl) (fun _ _ _ h => h) (fun oi ho => ?_) (HS.out _ H14.out.1.fr H14.out.1.rq) ?_
  · obtain rfl := Option.some.inj ho
    exact Or.inl ⟨by rfl, fun wx ⟨h4, h5, h6⟩ => by go_simp⟩
  simp only [Act.put, List.setIfInBounds_toArray, List.set_cons_zero, List.set_cons_succ]
  refine take_at (i := 11) (d := some 78) (v := .pointer (some ⟨W2.heap.size, 4, none⟩)) rfl (by kernel_rfl) (by kernel_rfl) (by kernel_rfl) (fun _ _ _ h => h) (fun oi ho => ?_) (HS.out _ H14.out.1.fr H14.out.1.rq) ?_
  · obtain rfl := Option.some.inj ho
    exact Or.inl ⟨by rfl, fun wx ⟨h4, h5, h6⟩ => by go_simp⟩
  simp only [Act.put, List.setIfInBounds_toArray, List.set_cons_zero, List.set_cons_succ]
  refine take_at (i := 12) (d := some 79) (v := .slice (some ⟨g, 0, none⟩) 5 5) rfl (by kernel_rfl) (by kernel_rfl) (by kernel_rfl) (fun _ _ _ h => h) (fun oi ho => ?_) (HS.out _ H14.out.1.fr H14.out.1.rq) ?_
  · obtain rfl := Option.some.inj ho
    exact Or.inl ⟨by rfl, fun wx ⟨h4, h5, h6⟩ => by go_simp⟩
  simp only [Act.put, List.setIfInBounds_toArray, List.set_cons_zero, List.set_cons_succ]
  refine take_at (i := 13) (d := some 80) (v := .int .i64 (i : Int)) rfl (by kernel_rfl) (by kernel_rfl) (by kernel_rfl) (fun _ _ _ h => h) (fun oi ho => ?_) (HS.out _ H14.out.1.fr H14.out.1.rq) ?_
  · obtain rfl := Option.some.inj ho
    exact Or.inl ⟨by rfl, fun wx ⟨h4, h5, h6⟩ => by go_simp⟩
  simp only [Act.put, List.setIfInBounds_toArray, List.set_cons_zero, List.set_cons_succ]
  refine take_at (i := 14) (d := some 81) (v := .pointer (some ⟨g, p, none⟩)) rfl (by kernel_rfl) (by kernel_rfl) (by kernel_rfl) (fun _ _ _ h => h) (fun oi ho => ?_) (HS.out _ H14.out.1.fr H14.out.1.rq) ?_
  · obtain rfl := Option.some.inj ho
    exact Or.inl ⟨by rfl, fun wx ⟨h4, h5, h6⟩ => by go_simp⟩
  simp only [Act.put, List.setIfInBounds_toArray, List.set_cons_zero, List.set_cons_succ]
  refine take_at (i := 15) (d := some 82) (v := .pointer (some ⟨g, p + 1, none⟩)) rfl (by kernel_rfl) (by kernel_rfl) (by kernel_rfl) (fun _ _ _ h => h) (fun oi ho => ?_) (HS.out _ H14.out.1.fr H14.out.1.rq) ?_
  · obtain rfl := Option.some.inj ho
    exact Or.inl ⟨by rfl, fun wx ⟨h4, h5, h6⟩ => by go_simp⟩
  simp only [Act.put, List.setIfInBounds_toArray, List.set_cons_zero, List.set_cons_succ]
  refine take_at (i := 16) (d := some 83) (v := S vl) rfl (by kernel_rfl) (by kernel_rfl) (by kernel_rfl) (fun _ _ _ h => h) (fun oi ho => ?_) (HS.out _ H14.out.1.fr H14.out.1.rq) ?_
  · obtain rfl := Option.some.inj ho
    exact Or.inl ⟨by rfl, fun wx ⟨h4, h5, h6⟩ => by go_simp⟩
  simp only [Act.put, List.setIfInBounds_toArray, List.set_cons_zero, List.set_cons_succ]
  refine ready_value (i := 0) (d := some 67) (v := .slice (some ⟨Wr.heap.size, 0, none⟩) 0 0) (w' := Wr.alloc (.cells #[] 37)) rfl (by kernel_rfl) (fun oi ho => ?_) (HS.out _ HR.out.2.2.1 HR.out.2.2.2.1) ?_
  · obtain rfl := Option.some.inj ho
    exact ⟨by rfl, by go_simp⟩
  simp only [Act.put, List.setIfInBounds_toArray, List.set_cons_zero, List.set_cons_succ]
  refine ready_value (i := 3) (d := some 70) (v := .slice a13 n13 c13) (w' := W14) rfl (by kernel_rfl) (fun oi ho => ?_) (HS.out _ HR.out.2.2.2.2.1.fr HR.out.2.2.2.2.1.rq) ?_
  · obtain rfl := Option.some.inj ho
    exact ⟨by rfl, exec_append 22 22 (.tmp 67) (.tmp 69) _ _ rfl rfl rfl hap1⟩
  simp only [Act.put, List.setIfInBounds_toArray, List.set_cons_zero, List.set_cons_succ]
  refine ready_call (i := 10) (d := some 77) (f := 18) (args := #[S nm]) rfl (by kernel_rfl) (fun oi ho => ?_) ?_
  · obtain rfl := Option.some.inj ho
    exact ⟨by rfl, by go_simp⟩
  refine (HLow.out _).mono ?_
  rintro e W15 ⟨rfl, hB⟩
  have HC : ∃ a n c W17, (Builtin.append_ #[22, 22] 22 #[.slice a13 n13 c13, .slice (some ⟨W15.heap.size, 0, none⟩) 1 1]).run Tryd.prog (W15.alloc (.cells #[S lw, S vl] 37)) = .ok (.slice a n c) W17 ∧ Hid (Below Wr.heap.size (W15.alloc (.cells #[S lw, S vl] 37)) W17 ∧ W17.ownsRow Wr.heap.size 37 2 (.slice a n c) (twiceV ek v13D i).length (fcells (twiceV ek v13D i))) := by
    have hO := own_below HB14.out.2.2 hB
    have hO2 : (W15.alloc (.cells #[S lw, S vl] 37)).ownsRow Wr.heap.size 37 2 (.slice a13 n13 c13) (askV ek v13D).length (fcells (askV ek v13D)) := hO.alloc _
    have hr := row_new W15 #[S lw, S vl] 37
    have hsz : Wr.heap.size ≤ W15.heap.size := Nat.le_trans HB14.out.1.size hB.size
    obtain ⟨a, c, W9, hr9, hO9, hB9⟩ := run_addD (fs := askV ek v13D) hO2 (by show (5 : Nat) ≤ 1000; decide) (by rw [alloc_size]; omega) (CellsD.of_row (fs := [(lw, vl)]) hr rfl) (by show (1 : Nat) ≤ 1000; decide) 1 1 rfl 22
    have e : askV ek v13D ++ [(lw, vl)] = twiceV ek v13D i := by unfold twiceV; rw [HNV.out.2.1, HNV.out.2.2]
    rw [e] at hr9 hO9
    exact ⟨a, _, c, W9, hr9, Lib.hid ⟨hB9, hO9⟩⟩
  obtain ⟨a17, n17, c17, W17, hap2, HB17⟩ := HC
  have HK : Hid (StL w g W2.heap.size cs #[.string ⟨#[71, 69, 84]⟩, .string ⟨#[47, 119, 115]⟩, .string ⟨#[]⟩, .int .i64 11, .slice (some ⟨g, 0, none⟩) 5 5, .string ⟨#[]⟩, .bool false] W15 ∧ StL w g W2.heap.size cs #[.string ⟨#[71, 69, 84]⟩, .string ⟨#[47, 119, 115]⟩, .string ⟨#[]⟩, .int .i64 11, .slice (some ⟨g, 0, none⟩) 5 5, .string ⟨#[]⟩, .bool false] (W15.alloc (.cells #[S lw, S vl] 37)) ∧ StL w g W2.heap.size cs #[.string ⟨#[71, 69, 84]⟩, .string ⟨#[47, 119, 115]⟩, .string ⟨#[]⟩, .int .i64 11, .slice (some ⟨g, 0, none⟩) 5 5, .string ⟨#[]⟩, .bool false] W17 ∧ Row W17 W12.heap.size #[.string ⟨#[71, 69, 84]⟩, .string ⟨#[47, 119, 115]⟩, .string ⟨#[]⟩, .int .i64 11, .slice (some ⟨g, 0, none⟩) 5 5, .string ⟨#[]⟩, .bool false] 24 ∧ StL w g W2.heap.size cs #[.string ⟨#[71, 69, 84]⟩, .string ⟨#[47, 119, 115]⟩, .string ⟨#[]⟩, .int .i64 11, .slice (some ⟨g, 0, none⟩) 5 5, .string ⟨#[]⟩, .bool false] (W17.setCell ⟨W12.heap.size, 4, none⟩ (.slice a17 n17 c17))) := Lib.hid (by
    have k15 := HR.out.2.2.2.2.1.after hB
    have k16 := k15.after ((Below.refl _ _).alloc (Nat.le_refl _) (.cells #[S lw, S vl] 37))
    have k17 := k16.next HB17.out.1 H14.out.1.fr.lt H14.out.1.rq.lt H14.out.1.below.size
    have r17 := ((HR.out.2.2.2.2.2.below hB HR.out.2.2.2.2.2.lt).alloc (.cells #[S lw, S vl] 37)).below HB17.out.1 H14.out.2.1.lt
    exact ⟨k15, k16, k17, r17, k17.set (by have := H14.out.2.2.1; omega) (by have := H14.out.2.2.2; omega) H12.out.below.size 4 _⟩)
  have z4 : W17.cell? ⟨W12.heap.size, 4, none⟩ = some (.slice (some ⟨g, 0, none⟩) 5 5) := cell_of_row W17 _ 4 _ _ (0, 0) HK.out.2.2.2.1
  have zf4 := Row.frozen HK.out.2.2.2.1 4
  refine ⟨_, rfl, (HS.out _ HK.out.1.fr HK.out.1.rq), ?_⟩
  simp only [Act.put, List.setIfInBounds_toArray, List.set_cons_zero, List.set_cons_succ]
  refine take_at (i := 17) (d := some 84) (v := .agg #[S lw, S vl]) rfl (by kernel_rfl) (by kernel_rfl) (by kernel_rfl) (fun _ _ _ h => h) (fun oi ho => ?_) (HS.out _ HK.out.1.fr HK.out.1.rq) ?_
  · obtain rfl := Option.some.inj ho
    exact Or.inl ⟨by rfl, fun wx ⟨h4, h5, h6⟩ => by go_simp⟩
  simp only [Act.put, List.setIfInBounds_toArray, List.set_cons_zero, List.set_cons_succ]
  refine ready_value (i := 18) (d := some 85) (v := .slice (some ⟨W15.heap.size, 0, none⟩) 1 1) (w' := W15.alloc (.cells #[S lw, S vl] 37)) rfl (by kernel_rfl) (fun oi ho => ?_) (HS.out _ HK.out.2.1.fr HK.out.2.1.rq) ?_
  · obtain rfl := Option.some.inj ho
    exact ⟨by rfl, by go_simp⟩
  simp only [Act.put, List.setIfInBounds_toArray, List.set_cons_zero, List.set_cons_succ]
  refine ready_value (i := 19) (d := some 86) (v := .slice a17 n17 c17) (w' := W17) rfl (by kernel_rfl) (fun oi ho => ?_) (HS.out _ HK.out.2.2.1.fr HK.out.2.2.1.rq) ?_
  · obtain rfl := Option.some.inj ho
    exact ⟨by rfl, exec_append 22 22 (.tmp 70) (.tmp 85) _ _ rfl rfl rfl hap2⟩
  simp only [Act.put, List.setIfInBounds_toArray, List.set_cons_zero, List.set_cons_succ]
  refine take_at (i := 20) (d := some 87) (v := .pointer (some ⟨W12.heap.size, 4, none⟩)) rfl (by kernel_rfl) (by kernel_rfl) (by kernel_rfl) (fun _ _ _ h => h) (fun oi ho => ?_) (HS.out _ HK.out.2.2.1.fr HK.out.2.2.1.rq) ?_
  · obtain rfl := Option.some.inj ho
    exact Or.inl ⟨by rfl, fun wx ⟨h4, h5, h6⟩ => by go_simp⟩
  simp only [Act.put, List.setIfInBounds_toArray, List.set_cons_zero, List.set_cons_succ]
  refine ready_skip (i := 21) (d := none) (w' := W17.setCell ⟨W12.heap.size, 4, none⟩ (.slice a17 n17 c17)) rfl (by kernel_rfl) (fun oi ho => ?_) (HS.out _ HK.out.2.2.2.2.fr HK.out.2.2.2.2.rq) ?_
  · obtain rfl := Option.some.inj ho
    exact ⟨by rfl, by go_simp⟩
  refine wpAnyH_done (by kernel_rfl) ?_ _
  refine NoPanic.normal ?_
  try simp only [Act.put]
  obtain ⟨V17, hV17⟩ : ∃ V, V = Value.slice a17 n17 c17 := ⟨_, rfl⟩
  rw [← hV17] at HB17 HK
  obtain ⟨W18, hW18⟩ : ∃ W, W = W17.setCell ⟨W12.heap.size, 4, none⟩ V17 := ⟨_, rfl⟩
  have he18 : Row W18 W12.heap.size #[.string ⟨#[71, 69, 84]⟩, .string ⟨#[47, 119, 115]⟩, .string ⟨#[]⟩, .int .i64 11, V17, .string ⟨#[]⟩, .bool false] 24 := by rw [hW18]; exact HK.out.2.2.2.1.set 4 V17
  have hO18 : W18.ownsRow Wr.heap.size 37 2 V17 (twiceV ek v13D i).length (fcells (twiceV ek v13D i)) := by rw [hW18]; exact row_own_set HB17.out.2 H14.out.2.1.lt
  have H18 : Hid (StL w g W2.heap.size cs #[.string ⟨#[71, 69, 84]⟩, .string ⟨#[47, 119, 115]⟩, .string ⟨#[]⟩, .int .i64 11, .slice (some ⟨g, 0, none⟩) 5 5, .string ⟨#[]⟩, .bool false] W18 ∧ W18.ownsRow Wr.heap.size 37 2 V17 (twiceV ek v13D i).length (fcells (twiceV ek v13D i))) := Lib.hid ⟨by rw [hW18]; exact HK.out.2.2.2.2, hO18⟩
  have d0 : W18.cell? ⟨W12.heap.size, 0, none⟩ = some (.string ⟨#[71, 69, 84]⟩) := cell_of_row W18 _ 0 _ _ (0, 0) he18
  have d1 : W18.cell? ⟨W12.heap.size, 1, none⟩ = some (.string ⟨#[47, 119, 115]⟩) := cell_of_row W18 _ 1 _ _ (0, 0) he18
  have d2 : W18.cell? ⟨W12.heap.size, 2, none⟩ = some (.string ⟨#[]⟩) := cell_of_row W18 _ 2 _ _ (0, 0) he18
  have d3 : W18.cell? ⟨W12.heap.size, 3, none⟩ = some (.int .i64 11) := cell_of_row W18 _ 3 _ _ (0, 0) he18
  have d4 : W18.cell? ⟨W12.heap.size, 4, none⟩ = some (V17) := cell_of_row W18 _ 4 _ _ (0, 0) he18
  have d5 : W18.cell? ⟨W12.heap.size, 5, none⟩ = some (.string ⟨#[]⟩) := cell_of_row W18 _ 5 _ _ (0, 0) he18
  have d6 : W18.cell? ⟨W12.heap.size, 6, none⟩ = some (.bool false) := cell_of_row W18 _ 6 _ _ (0, 0) he18
  rw [← hV17]
  rw [← hW18]
  clear hV17 hW18 he18 hO18 HK HB17 HR HB14 hap1 hap2 HS hix H13 H14 H12 z4 zf4 hB HLow p0 p1 p2 p3 p4 p5 p6
  go_wp2_with fail
  refine (HTwice.out W18 _ V17 H18.out.1.below H18.out.2).mono ?_
  rintro e W19 ⟨rfl, hB⟩
  have H19 := Lib.hid (H18.out.1.after hB)
  have h19 := H19.out.rq
  have p0 : W19.cell? ⟨W2.heap.size, 0, none⟩ = some (.string ⟨#[71, 69, 84]⟩) := cell_of_row W19 _ 0 _ _ (0, 0) h19
  have p1 : W19.cell? ⟨W2.heap.size, 1, none⟩ = some (.string ⟨#[47, 119, 115]⟩) := cell_of_row W19 _ 1 _ _ (0, 0) h19
  have p2 : W19.cell? ⟨W2.heap.size, 2, none⟩ = some (.string ⟨#[]⟩) := cell_of_row W19 _ 2 _ _ (0, 0) h19
  have p3 : W19.cell? ⟨W2.heap.size, 3, none⟩ = some (.int .i64 11) := cell_of_row W19 _ 3 _ _ (0, 0) h19
  have p4 : W19.cell? ⟨W2.heap.size, 4, none⟩ = some (.slice (some ⟨g, 0, none⟩) 5 5) := cell_of_row W19 _ 4 _ _ (0, 0) h19
  have p5 : W19.cell? ⟨W2.heap.size, 5, none⟩ = some (.string ⟨#[]⟩) := cell_of_row W19 _ 5 _ _ (0, 0) h19
  have p6 : W19.cell? ⟨W2.heap.size, 6, none⟩ = some (.bool false) := cell_of_row W19 _ 6 _ _ (0, 0) h19
  obtain ⟨W22, hW22⟩ : ∃ W, W = W19.alloc (.cells #[S m, .string ⟨#[47, 119, 115]⟩, .string ⟨#[]⟩, .int .i64 v, .slice (some ⟨g, 0, none⟩) 5 5, .string ⟨#[]⟩, .bool false] 24) := ⟨_, rfl⟩
  have H22 : Hid (StL w g W2.heap.size cs #[.string ⟨#[71, 69, 84]⟩, .string ⟨#[47, 119, 115]⟩, .string ⟨#[]⟩, .int .i64 11, .slice (some ⟨g, 0, none⟩) 5 5, .string ⟨#[]⟩, .bool false] W22) := Lib.hid (by
    rw [hW22]
    exact H19.out.after ((Below.refl _ _).alloc (Nat.le_refl _) _))
  clear hB h19 H18 HTwice d0 d1 d2 d3 d4 d5 d6
  have HO3 := Lib.hid (HOther.out W22 g H22.out.below H22.out.fr)
  clear HOther
  have HC5 : i = 1 ∨ i = 2 ∨ (i ≠ 1 ∧ i ≠ 2) := by omega
  rcases HC5 with h | h | h
  · have t1 : ((i : Int) == 1) = true := by simp [h]
    have t1' : (i == 1) = true := by simp [h]
    have hc2 : c2 = 101 := by rw [HC2.out, if_pos (.inl h)]
    subst hc2
    clear h HC2
    go_wp2_with fail
    rw [← hW22]
    clear hW22 p0 p1 p2 p3 p4 p5 p6
    refine HO3.out.mono ?_
    rintro e W23 ⟨rfl, hB⟩
    have B23 := Lib.hid (H22.out.below.trans (hB.mono H22.out.below.size))
    clear hB HO3 H22 H19
    have em0 : binOp .eql 9 (S m) (.string ⟨#[71, 69, 84]⟩) = pure (.bool (m == getD)) := eql_S 9 m getD
    have gm : ∀ x y, eqGuard .eql 9 x y (S m) (.string ⟨#[71, 69, 84]⟩) = pure () := fun _ _ => rfl
    by_cases hm : m = getD
    · have em : binOp .eql 9 (S m) (.string ⟨#[71, 69, 84]⟩) = pure (.bool true) := by rw [em0, hm, beq_self_eq_true]
      by_cases hv : v = 11
      · have hv1 : (v == 11) = true := by simp [hv]
        have hc3 : c3 = 101 := by rw [HC3.out, if_pos ⟨hm, hv⟩]
        subst hc3
        clear em0 hm hv HC3
        go_wp2_with fail
        refine (HW.out W23 B23.out).mono ?_
        rintro e W24 ⟨rfl, hB⟩
        have B24 := Lib.hid (B23.out.trans (hB.mono B23.out.size))
        clear hB
        go_wp2
        go_ret
        exact ⟨rfl, B24.out⟩
      · have hv1 : (v == 11) = false := by simpa using hv
        have hc3 : c3 = 400 := by rw [HC3.out, if_neg (fun e => hv e.2)]
        subst hc3
        clear em0 hm hv HC3
        go_wp2_with fail
        refine (HW.out W23 B23.out).mono ?_
        rintro e W24 ⟨rfl, hB⟩
        have B24 := Lib.hid (B23.out.trans (hB.mono B23.out.size))
        clear hB
        go_wp2
        go_ret
        exact ⟨rfl, B24.out⟩
    · have em : binOp .eql 9 (S m) (.string ⟨#[71, 69, 84]⟩) = pure (.bool false) := by rw [em0, show (m == getD) = false from by simpa using hm]
      have hc3 : c3 = 400 := by rw [HC3.out, if_neg (fun e => hm e.1)]
      subst hc3
      clear em0 hm HC3
      go_wp2_with fail
      refine (HW.out W23 B23.out).mono ?_
      rintro e W24 ⟨rfl, hB⟩
      have B24 := Lib.hid (B23.out.trans (hB.mono B23.out.size))
      clear hB
      go_wp2
      go_ret
      exact ⟨rfl, B24.out⟩
  · have t1 : ((i : Int) == 1) = false := by simp [h]
    have t1' : (i == 1) = false := by simp [h]
    have t2 : ((i : Int) == 2) = true := by simp [h]
    have t2' : (i == 2) = true := by simp [h]
    have hc2 : c2 = 101 := by rw [HC2.out, if_pos (.inr h)]
    subst hc2
    clear h HC2
    go_wp2_with fail
    rw [← hW22]
    clear hW22 p0 p1 p2 p3 p4 p5 p6
    refine HO3.out.mono ?_
    rintro e W23 ⟨rfl, hB⟩
    have B23 := Lib.hid (H22.out.below.trans (hB.mono H22.out.below.size))
    clear hB HO3 H22 H19
    have em0 : binOp .eql 9 (S m) (.string ⟨#[71, 69, 84]⟩) = pure (.bool (m == getD)) := eql_S 9 m getD
    have gm : ∀ x y, eqGuard .eql 9 x y (S m) (.string ⟨#[71, 69, 84]⟩) = pure () := fun _ _ => rfl
    by_cases hm : m = getD
    · have em : binOp .eql 9 (S m) (.string ⟨#[71, 69, 84]⟩) = pure (.bool true) := by rw [em0, hm, beq_self_eq_true]
      by_cases hv : v = 11
      · have hv1 : (v == 11) = true := by simp [hv]
        have hc3 : c3 = 101 := by rw [HC3.out, if_pos ⟨hm, hv⟩]
        subst hc3
        clear em0 hm hv HC3
        go_wp2_with fail
        refine (HW.out W23 B23.out).mono ?_
        rintro e W24 ⟨rfl, hB⟩
        have B24 := Lib.hid (B23.out.trans (hB.mono B23.out.size))
        clear hB
        go_wp2
        go_ret
        exact ⟨rfl, B24.out⟩
      · have hv1 : (v == 11) = false := by simpa using hv
        have hc3 : c3 = 400 := by rw [HC3.out, if_neg (fun e => hv e.2)]
        subst hc3
        clear em0 hm hv HC3
        go_wp2_with fail
        refine (HW.out W23 B23.out).mono ?_
        rintro e W24 ⟨rfl, hB⟩
        have B24 := Lib.hid (B23.out.trans (hB.mono B23.out.size))
        clear hB
        go_wp2
        go_ret
        exact ⟨rfl, B24.out⟩
    · have em : binOp .eql 9 (S m) (.string ⟨#[71, 69, 84]⟩) = pure (.bool false) := by rw [em0, show (m == getD) = false from by simpa using hm]
      have hc3 : c3 = 400 := by rw [HC3.out, if_neg (fun e => hm e.1)]
      subst hc3
      clear em0 hm HC3
      go_wp2_with fail
      refine (HW.out W23 B23.out).mono ?_
      rintro e W24 ⟨rfl, hB⟩
      have B24 := Lib.hid (B23.out.trans (hB.mono B23.out.size))
      clear hB
      go_wp2
      go_ret
      exact ⟨rfl, B24.out⟩
  · have t1' : (i == 1) = false := by simp [h.1]
    have t2' : (i == 2) = false := by simp [h.2]
    have t1 : ((i : Int) == 1) = false := by have := h.1; simp; omega
    have t2 : ((i : Int) == 2) = false := by have := h.2; simp; omega
    have hc2 : c2 = 400 := by rw [HC2.out, if_neg (fun e => e.elim h.1 h.2)]
    subst hc2
    clear h HC2
    go_wp2_with fail
    rw [← hW22]
    clear hW22 p0 p1 p2 p3 p4 p5 p6
    refine HO3.out.mono ?_
    rintro e W23 ⟨rfl, hB⟩
    have B23 := Lib.hid (H22.out.below.trans (hB.mono H22.out.below.size))
    clear hB HO3 H22 H19
    have em0 : binOp .eql 9 (S m) (.string ⟨#[71, 69, 84]⟩) = pure (.bool (m == getD)) := eql_S 9 m getD
    have gm : ∀ x y, eqGuard .eql 9 x y (S m) (.string ⟨#[71, 69, 84]⟩) = pure () := fun _ _ => rfl
    by_cases hm : m = getD
    · have em : binOp .eql 9 (S m) (.string ⟨#[71, 69, 84]⟩) = pure (.bool true) := by rw [em0, hm, beq_self_eq_true]
      by_cases hv : v = 11
      · have hv1 : (v == 11) = true := by simp [hv]
        have hc3 : c3 = 101 := by rw [HC3.out, if_pos ⟨hm, hv⟩]
        subst hc3
        clear em0 hm hv HC3
        go_wp2_with fail
        refine (HW.out W23 B23.out).mono ?_
        rintro e W24 ⟨rfl, hB⟩
        have B24 := Lib.hid (B23.out.trans (hB.mono B23.out.size))
        clear hB
        go_wp2
        go_ret
        exact ⟨rfl, B24.out⟩
      · have hv1 : (v == 11) = false := by simpa using hv
        have hc3 : c3 = 400 := by rw [HC3.out, if_neg (fun e => hv e.2)]
        subst hc3
        clear em0 hm hv HC3
        go_wp2_with fail
        refine (HW.out W23 B23.out).mono ?_
        rintro e W24 ⟨rfl, hB⟩
        have B24 := Lib.hid (B23.out.trans (hB.mono B23.out.size))
        clear hB
        go_wp2
        go_ret
        exact ⟨rfl, B24.out⟩
    · have em : binOp .eql 9 (S m) (.string ⟨#[71, 69, 84]⟩) = pure (.bool false) := by rw [em0, show (m == getD) = false from by simpa using hm]
      have hc3 : c3 = 400 := by rw [HC3.out, if_neg (fun e => hm e.1)]
      subst hc3
      clear em0 hm HC3
      go_wp2_with fail
      refine (HW.out W23 B23.out).mono ?_
      rintro e W24 ⟨rfl, hB⟩
      have B24 := Lib.hid (B23.out.trans (hB.mono B23.out.size))
      clear hB
      go_wp2
      go_ret
      exact ⟨rfl, B24.out⟩
end Go.Proofs.YtnaekjmlikhglaaDoor
