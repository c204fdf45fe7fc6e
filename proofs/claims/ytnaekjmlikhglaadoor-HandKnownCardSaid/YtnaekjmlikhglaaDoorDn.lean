/- The turns of HandKnown: what each does to a request (stage 17). (mkdn.py writes it.) -/
import Derived.Test.YtnaekjmlikhglaaDoorDm3
import Derived.Test.YtnaekjmlikhglaaDoorDj
namespace Go.Proofs.YtnaekjmlikhglaaDoor
open Go.RowKit
attribute [local go_sem] store_one B_match B_store S_match S_store

theorem fa_cells {W : World} {g : Nat} {cs : Array Value} {fs : DFds} {n c : Nat} (h : Row W g cs 37) (hp : cs.toList.take (fcells fs).length = fcells fs) (hn : n = fs.length) : FA W (.slice (some ⟨g, 0, none⟩) n c) fs g 0 := by
  subst hn
  have hrow : ∀ j u, (fcells fs)[j]? = some u → W.cell? ⟨g, j, none⟩ = some u := fun j u hu => by
    rw [cell_of_row W g j _ _ (0, 0) h, ← Array.getElem?_toList]
    rw [← hp, List.getElem?_take] at hu
    split at hu
    · exact hu
    · cases hu
  refine ⟨fun T w' => by simp [Builtin.len_, run_underlying Tryd.underlying22, Result.andThen, goInt], fun i hi w' => run_index_at (P := Tryd.prog) Tryd.underlying22 (fun w => Tryd.sizeOf37 w) g 0 fs.length c i hi w', fun i f hf => ?_, ⟨_, _, rfl⟩⟩
  obtain ⟨h1, h2⟩ := fcells_get _ i f hf
  rw [Nat.zero_add]
  exact ⟨hrow _ _ h1, hrow _ _ h2⟩
/-- What a turn leaves: a request of some row's fields in block b; nothing else turned but block g. -/
structure Trn (w : World) (b g k : Nat) (e : Ending) (w' : World) : Prop where
  ret : e = .returned (.tuple #[])
  req : ∃ V gb go, Row w' b #[S (rwK k).m, S wsP, S [], .int .i64 (rwK k).v, V, S [], .bool false] 24 ∧ FA w' V (rwK k).fs gb go
  keep : Moves (fun x => x = b ∨ x = g) (fun x => x = b ∨ x = g ∨ w.heap.size ≤ x) w w'
theorem moves_two {w w' : World} {b g : Nat} (h : w.grownBy w' (some g)) : Moves (fun x => x = b ∨ x = g) (fun x => x = b ∨ x = g ∨ w.heap.size ≤ x) w w' :=
  ⟨h.os, h.tape, h.output, h.size, fun k hk => by
    rcases hk with e | e | e
    · exact .inl (.inl e)
    · exact .inl (.inr e)
    · exact .inr e, fun k hk hn => h.block k hk fun e => hn (.inr (Option.some.inj e))⟩
theorem moves_twoB {w w' : World} {b g : Nat} (h : w.grownBy w' (some b)) : Moves (fun x => x = b ∨ x = g) (fun x => x = b ∨ x = g ∨ w.heap.size ≤ x) w w' :=
  ⟨h.os, h.tape, h.output, h.size, fun k hk => by
    rcases hk with e | e | e
    · exact .inl (.inl e)
    · exact .inl (.inr e)
    · exact .inr e, fun k hk hn => h.block k hk fun e => hn (.inl (Option.some.inj e))⟩
theorem grown_two {a w w' : World} {row : Option Nat} (h : a.grownBy w row) (k : w.grownBy w' row) : a.grownBy w' row :=
  ⟨k.os.trans h.os, k.tape.trans h.tape, k.output.trans h.output, Nat.le_trans h.size k.size, fun i hi hn => (k.block i (Nat.lt_of_lt_of_le hi h.size) hn).trans (h.block i hi hn)⟩
theorem moves_add {W W1 W2 : World} {b g : Nat} (hB : Below W.heap.size W W1) (hg : W1.grownBy W2 (some g)) (i : Nat) (v : Value) : Moves (fun x => x = b ∨ x = g) (fun x => x = b ∨ x = g ∨ W.heap.size ≤ x) W (W2.setCell ⟨b, i, none⟩ v) :=
  ⟨hg.os.trans hB.os, hg.tape.trans hB.tape, hg.output.trans hB.output, by have := hB.size; have := hg.size; simp [World.setCell]; omega, fun k hk => by
    rcases hk with e | e | e
    · exact .inl (.inl e)
    · exact .inl (.inr e)
    · exact .inr e, fun k hk hn => by
      rw [Below.heap_setCell _ _ _ _ (fun e => hn (.inl e)), hg.block k (Nat.lt_of_lt_of_le hk hB.size) (fun e => hn (.inr (Option.some.inj e)))]
      exact hB.block k hk⟩
theorem wpList_append17 {P : Program} {ops : Array Oper} {rest : List Oper} {o : Oper} {a : Act} {w : World} {Q : Exit → Act → World → Prop} (hgd : o.guard = none) (t1 t2 : TypeId) (x y : Operand) (X Y : Value) (ho : o.op = .call { callee := .builtin .append, args := #[x, y], argTypes := #[t1, t2] }) (hx : a.eval x = X) (hy : a.eval y = Y) {v' : Value} {w' : World}
    (hr : (Builtin.append_ #[t1, t2] o.type #[X, Y]).run P w = .ok v' w') (h : wpList P ops Q rest (a.put o.dst v') w') : wpList P ops Q (o :: rest) a w :=
  wpList_plain hgd fun K hK => by
    unfold Oper.wp
    simp only [execOp, ho, resolve, invoke, builtin, Sem.run_bind, Sem.run_pure, Result.andThen_ok, List.map_toArray, List.map_cons, List.map_nil, hx, hy, hr]
    exact hK _ _ h
/-- A field appended to a row of one's own. -/
theorem run_addG {W : World} {base : Nat} {V : Value} {fs : DFds} (h : W.ownsRow base 37 2 V fs.length (fcells fs)) (hl : fs.length ≤ 1000) (hb : base ≤ W.heap.size) {b : Nat} {f : DTx × DTx} (hc : CellsD W b 0 [f]) (ty : TypeId) :
    ∃ a cap W', (Builtin.append_ #[22, 22] ty #[V, .slice (some ⟨b, 0, none⟩) 1 1]).run Tryd.prog W = .ok (.slice a (fs ++ [f]).length cap) W' ∧ W'.ownsRow base 37 2 (.slice a (fs ++ [f]).length cap) (fs ++ [f]).length (fcells (fs ++ [f])) ∧ W.grownBy W' V.ownBlock ∧ ∃ k, (Value.slice a (fs ++ [f]).length cap).ownBlock = some k ∧ (V.ownBlock = some k ∨ k = W.heap.size) := by
  obtain ⟨i, z, hi, hz, hsz, hby, hzs⟩ := eleF
  have hbb : (fs.length + 1) * i.bytes ≤ 140737488355328 := by
    have : (fs.length + 1) * i.bytes ≤ 2000 * 4096 := Nat.mul_le_mul (by omega) hby
    omega
  obtain ⟨g, cap, w', hr, h2, h3, h4, _⟩ := run_append_lies (P := Tryd.prog) W 22 ty base 37 i z 2 i.bytes Tryd.underlying22 hi hz hsz rfl hzs (by omega) V fs.length (fcells fs) h ⟨b, 0, none⟩ 1 1 (fcells [f]) (dcells_len _) (fun j u hu => by
    rw [Addr.add_mid]; exact hc j u hu) (dcells_one _) (by omega) (by simp only [maxLen]; omega) hbb hb _ rfl
  have hn : fs.length + 1 = (fs ++ [f]).length := by rw [List.length_append]; rfl
  rw [← dcells_app] at h2
  rw [hn] at h2 hr
  exact ⟨_, cap, w', hr, h2, h3, g, rfl, h4⟩
section
variable {W : World} {b g : Nat}
set_option maxRecDepth 100000 in
set_option maxHeartbeats 1000000 in
theorem turn_0 (hb : Row W b #[.string ⟨#[71, 69, 84]⟩, .string ⟨#[47, 119, 115]⟩, .string ⟨#[]⟩, .int .i64 11, .slice (some ⟨g, 0, none⟩) 5 5, .string ⟨#[]⟩, .bool false] 24) (hg : Row W g askC 37) (_hne : b ≠ g) : Calls Tryd.prog 21 #[.pointer (some ⟨b, 0, none⟩)] W (Trn W b g 0) := by
  have HN : Hid (Trn W b g 0 (.returned (.tuple #[])) W) := Lib.hid ⟨rfl, ⟨_, _, _, hb, fa_cells hg (by rfl) rfl⟩, moves_two (b := b) (g := g) ⟨rfl, rfl, rfl, Nat.le_refl _, fun _ _ _ => rfl⟩⟩
  clear hb hg
  go_enter Tryd.func21, Tryd.ntmps21
  go_wp2
  refine bodyPost_end (results_none rfl _ _ _) rfl ?_
  exact HN.out
set_option maxRecDepth 100000 in
set_option maxHeartbeats 1000000 in
theorem turn_1 (hb : Row W b #[.string ⟨#[71, 69, 84]⟩, .string ⟨#[47, 119, 115]⟩, .string ⟨#[]⟩, .int .i64 11, .slice (some ⟨g, 0, none⟩) 5 5, .string ⟨#[]⟩, .bool false] 24) (hg : Row W g askC 37) (hne : b ≠ g) : Calls Tryd.prog 22 #[.pointer (some ⟨b, 0, none⟩)] W (Trn W b g 1) := by
  have c4 : W.cell? ⟨b, 4, none⟩ = some (.slice (some ⟨g, 0, none⟩) 5 5) := cell_of_row W _ 4 _ _ (0, 0) hb
  have ix4 : ∀ w', (Instr.indexAt 22 (.slice (some ⟨g, 0, none⟩) 5 5) (.int .i64 4)).run Tryd.prog w' = .ok (.pointer (some ⟨g, 8, none⟩)) w' := run_index_at (P := Tryd.prog) Tryd.underlying22 (fun w => Tryd.sizeOf37 w) g 0 5 5 4 (by decide)
  have x0 := cell_of_row W g 9 _ _ (0, 0) hg
  have xf0 := Row.frozen hg 9
  have hg0 := Row.set hg 9 (.string ⟨#[56]⟩)
  have hb0 := Row.other (a := ⟨g, 9, none⟩) (v := .string ⟨#[56]⟩) hb hne
  have HN : Hid (Trn W b g 1 (.returned (.tuple #[])) (W.setCell ⟨g, 9, none⟩ (.string ⟨#[56]⟩))) := Lib.hid ⟨rfl, ⟨_, _, _, hb0, fa_cells hg0 (by rfl) rfl⟩, moves_two (b := b) (g := g) (grown_cell W g 9 (.string ⟨#[56]⟩))⟩
  clear hb hg hne hg0 hb0
  go_enter Tryd.func22, Tryd.ntmps22
  go_wp2
  refine bodyPost_end (results_none rfl _ _ _) rfl ?_
  exact HN.out
set_option maxRecDepth 100000 in
set_option maxHeartbeats 1000000 in
theorem turn_2 (hb : Row W b #[.string ⟨#[71, 69, 84]⟩, .string ⟨#[47, 119, 115]⟩, .string ⟨#[]⟩, .int .i64 11, .slice (some ⟨g, 0, none⟩) 5 5, .string ⟨#[]⟩, .bool false] 24) (hg : Row W g askC 37) (hne : b ≠ g) : Calls Tryd.prog 23 #[.pointer (some ⟨b, 0, none⟩)] W (Trn W b g 2) := by
  have c4 : W.cell? ⟨b, 4, none⟩ = some (.slice (some ⟨g, 0, none⟩) 5 5) := cell_of_row W _ 4 _ _ (0, 0) hb
  have hs := fun w => slice5_to g 4 (by decide) w
  have f4 := Row.frozen hb 4
  have hb1 := Row.set hb 4 (.slice (some ⟨g, 0, none⟩) 4 5)
  have hg1 := Row.other (a := ⟨b, 4, none⟩) (v := .slice (some ⟨g, 0, none⟩) 4 5) hg (Ne.symm hne)
  have HN : Hid (Trn W b g 2 (.returned (.tuple #[])) (W.setCell ⟨b, 4, none⟩ (.slice (some ⟨g, 0, none⟩) 4 5))) := Lib.hid ⟨rfl, ⟨_, _, _, hb1, fa_cells hg1 (by rfl) rfl⟩, moves_twoB (grown_cell W b 4 _)⟩
  clear hb hg hne hb1 hg1
  go_enter Tryd.func23, Tryd.ntmps23
  go_wp2
  refine bodyPost_end (results_none rfl _ _ _) rfl ?_
  exact HN.out
set_option maxRecDepth 100000 in
set_option maxHeartbeats 1000000 in
theorem turn_3 (hb : Row W b #[.string ⟨#[71, 69, 84]⟩, .string ⟨#[47, 119, 115]⟩, .string ⟨#[]⟩, .int .i64 11, .slice (some ⟨g, 0, none⟩) 5 5, .string ⟨#[]⟩, .bool false] 24) (hg : Row W g askC 37) (hne : b ≠ g) : Calls Tryd.prog 24 #[.pointer (some ⟨b, 0, none⟩)] W (Trn W b g 3) := by
  have c0 : W.cell? ⟨b, 0, none⟩ = some (.string ⟨#[71, 69, 84]⟩) := cell_of_row W _ 0 _ _ (0, 0) hb
  have f0 := Row.frozen hb 0
  have hb1 := Row.set hb 0 (.string ⟨#[80, 79, 83, 84]⟩)
  have hg1 := Row.other (a := ⟨b, 0, none⟩) (v := .string ⟨#[80, 79, 83, 84]⟩) hg (Ne.symm hne)
  have HN : Hid (Trn W b g 3 (.returned (.tuple #[])) (W.setCell ⟨b, 0, none⟩ (.string ⟨#[80, 79, 83, 84]⟩))) := Lib.hid ⟨rfl, ⟨_, _, _, hb1, fa_cells hg1 (by rfl) rfl⟩, moves_twoB (grown_cell W b 0 _)⟩
  clear hb hg hne hb1 hg1
  go_enter Tryd.func24, Tryd.ntmps24
  go_wp2
  refine bodyPost_end (results_none rfl _ _ _) rfl ?_
  exact HN.out
set_option maxRecDepth 100000 in
set_option maxHeartbeats 1000000 in
theorem turn_4 (hb : Row W b #[.string ⟨#[71, 69, 84]⟩, .string ⟨#[47, 119, 115]⟩, .string ⟨#[]⟩, .int .i64 11, .slice (some ⟨g, 0, none⟩) 5 5, .string ⟨#[]⟩, .bool false] 24) (hg : Row W g askC 37) (hne : b ≠ g) : Calls Tryd.prog 25 #[.pointer (some ⟨b, 0, none⟩)] W (Trn W b g 4) := by
  have c0 : W.cell? ⟨b, 3, none⟩ = some (.int .i64 11) := cell_of_row W _ 3 _ _ (0, 0) hb
  have f0 := Row.frozen hb 3
  have hb1 := Row.set hb 3 (.int .i64 10)
  have hg1 := Row.other (a := ⟨b, 3, none⟩) (v := .int .i64 10) hg (Ne.symm hne)
  have HN : Hid (Trn W b g 4 (.returned (.tuple #[])) (W.setCell ⟨b, 3, none⟩ (.int .i64 10))) := Lib.hid ⟨rfl, ⟨_, _, _, hb1, fa_cells hg1 (by rfl) rfl⟩, moves_twoB (grown_cell W b 3 _)⟩
  clear hb hg hne hb1 hg1
  go_enter Tryd.func25, Tryd.ntmps25
  go_wp2
  refine bodyPost_end (results_none rfl _ _ _) rfl ?_
  exact HN.out
set_option maxRecDepth 100000 in
set_option maxHeartbeats 1000000 in
theorem turn_5 (hb : Row W b #[.string ⟨#[71, 69, 84]⟩, .string ⟨#[47, 119, 115]⟩, .string ⟨#[]⟩, .int .i64 11, .slice (some ⟨g, 0, none⟩) 5 5, .string ⟨#[]⟩, .bool false] 24) (hg : Row W g askC 37) (hne : b ≠ g) : Calls Tryd.prog 26 #[.pointer (some ⟨b, 0, none⟩)] W (Trn W b g 5) := by
  have c4 : W.cell? ⟨b, 4, none⟩ = some (.slice (some ⟨g, 0, none⟩) 5 5) := cell_of_row W _ 4 _ _ (0, 0) hb
  obtain ⟨W1, hW1⟩ : ∃ W1, W1 = W.alloc (.cells #[.string ⟨#[115, 101, 99, 45, 119, 101, 98, 115, 111, 99, 107, 101, 116, 45, 107, 101, 121]⟩, .string ⟨#[100, 71, 104, 108, 73, 72, 78, 104, 98, 88, 66, 115, 90, 83, 66, 117, 98, 50, 53, 106, 90, 81, 61, 61]⟩] 37) := ⟨_, rfl⟩
  have hr1 : Row W1 W.heap.size #[.string ⟨#[115, 101, 99, 45, 119, 101, 98, 115, 111, 99, 107, 101, 116, 45, 107, 101, 121]⟩, .string ⟨#[100, 71, 104, 108, 73, 72, 78, 104, 98, 88, 66, 115, 90, 83, 66, 117, 98, 50, 53, 106, 90, 81, 61, 61]⟩] 37 := by rw [hW1]; exact row_new W _ _
  have hB1 : Below W.heap.size W W1 := by rw [hW1]; exact (Below.refl _ W).alloc (Nat.le_refl _) _
  have hb1 := hb.below hB1 hb.lt
  have hg1 := hg.below hB1 hg.lt
  have ho : W1.ownsRow g 37 2 (.slice (some ⟨g, 0, none⟩) 5 5) 5 (fcells asksF) := own_lit (fs := asksF) hg1 (Nat.le_refl _) (by rfl) (by decide)
  obtain ⟨a, cp, W2, hrun, hO, hgr, kk, hkk, hkw⟩ := run_addG (fs := asksF) ho (by decide) (Nat.le_of_lt hg1.lt) (b := W.heap.size) (f := ([115, 101, 99, 45, 119, 101, 98, 115, 111, 99, 107, 101, 116, 45, 107, 101, 121], [100, 71, 104, 108, 73, 72, 78, 104, 98, 88, 66, 115, 90, 83, 66, 117, 98, 50, 53, 106, 90, 81, 61, 61])) (CellsD.of_row hr1 (by rfl)) 22
  have hb2 : Row W2 b #[.string ⟨#[71, 69, 84]⟩, .string ⟨#[47, 119, 115]⟩, .string ⟨#[]⟩, .int .i64 11, .slice (some ⟨g, 0, none⟩) 5 5, .string ⟨#[]⟩, .bool false] 24 := row_grown hb1 hgr (fun e => hne (Option.some.inj e))
  have d4 : W2.cell? ⟨b, 4, none⟩ = some (.slice (some ⟨g, 0, none⟩) 5 5) := cell_of_row W2 _ 4 _ _ (0, 0) hb2
  have f4 := Row.frozen hb2 4
  have hb3 := Row.set hb2 4 (.slice a 6 cp)
  have hO3 := own_same hO (w' := W2.setCell ⟨b, 4, none⟩ (.slice a 6 cp)) fun j hj => Below.heap_setCell _ _ _ _ (fun e => by
    rw [hkk] at hj
    have e1 := Option.some.inj hj
    have hlb := hb.lt
    have := hB1.size
    rcases hkw with e2 | e2
    · exact hne (by rw [← show j = b from e, ← e1]; exact (Option.some.inj e2).symm)
    · have e3 : j = b := e
      omega)
  obtain ⟨gf, hfa3⟩ := CellsD.fa (fs := asksF ++ [([115, 101, 99, 45, 119, 101, 98, 115, 111, 99, 107, 101, 116, 45, 107, 101, 121], [100, 71, 104, 108, 73, 72, 78, 104, 98, 88, 66, 115, 90, 83, 66, 117, 98, 50, 53, 106, 90, 81, 61, 61])]) hO3
  have HN : Hid (Trn W b g 5 (.returned (.tuple #[])) (W2.setCell ⟨b, 4, none⟩ (.slice a 6 cp))) := Lib.hid ⟨rfl, ⟨_, _, _, hb3, hfa3⟩, moves_add hB1 hgr 4 _⟩
  have hrun' : (Builtin.append_ #[22, 22] 22 #[.slice (some ⟨g, 0, none⟩) 5 5, .slice (some ⟨W.heap.size, 0, none⟩) 1 1]).run Tryd.prog W1 = .ok (.slice a 6 cp) W2 := hrun
  rw [hW1] at hrun'
  clear hb hg hne hb1 hg1 ho hO hgr hb2 hb3 hfa3 hr1 hB1 hrun hW1 hO3 hkk hkw
  go_enter Tryd.func26, Tryd.ntmps26
  go_wp2_with (at_builtin; refine wpList_append17 rfl 22 22 (.tmp 6) (.tmp 8) _ _ rfl rfl rfl hrun' ?_)
  refine bodyPost_end (results_none rfl _ _ _) rfl ?_
  exact HN.out
set_option maxRecDepth 100000 in
set_option maxHeartbeats 1000000 in
theorem turn_6 (hb : Row W b #[.string ⟨#[71, 69, 84]⟩, .string ⟨#[47, 119, 115]⟩, .string ⟨#[]⟩, .int .i64 11, .slice (some ⟨g, 0, none⟩) 5 5, .string ⟨#[]⟩, .bool false] 24) (hg : Row W g askC 37) (hne : b ≠ g) : Calls Tryd.prog 27 #[.pointer (some ⟨b, 0, none⟩)] W (Trn W b g 6) := by
  have c4 : W.cell? ⟨b, 4, none⟩ = some (.slice (some ⟨g, 0, none⟩) 5 5) := cell_of_row W _ 4 _ _ (0, 0) hb
  have ix3 : ∀ w', (Instr.indexAt 22 (.slice (some ⟨g, 0, none⟩) 5 5) (.int .i64 3)).run Tryd.prog w' = .ok (.pointer (some ⟨g, 6, none⟩)) w' := run_index_at (P := Tryd.prog) Tryd.underlying22 (fun w => Tryd.sizeOf37 w) g 0 5 5 3 (by decide)
  have x0 := cell_of_row W g 7 _ _ (0, 0) hg
  have xf0 := Row.frozen hg 7
  have hg0 := Row.set hg 7 (.string ⟨#[100, 71, 104, 108, 73, 72, 78, 104, 98, 88, 66, 115, 90, 83, 66, 117, 98, 50, 53, 106, 90, 81, 61]⟩)
  have hb0 := Row.other (a := ⟨g, 7, none⟩) (v := .string ⟨#[100, 71, 104, 108, 73, 72, 78, 104, 98, 88, 66, 115, 90, 83, 66, 117, 98, 50, 53, 106, 90, 81, 61]⟩) hb hne
  have HN : Hid (Trn W b g 6 (.returned (.tuple #[])) (W.setCell ⟨g, 7, none⟩ (.string ⟨#[100, 71, 104, 108, 73, 72, 78, 104, 98, 88, 66, 115, 90, 83, 66, 117, 98, 50, 53, 106, 90, 81, 61]⟩))) := Lib.hid ⟨rfl, ⟨_, _, _, hb0, fa_cells hg0 (by rfl) rfl⟩, moves_two (b := b) (g := g) (grown_cell W g 7 (.string ⟨#[100, 71, 104, 108, 73, 72, 78, 104, 98, 88, 66, 115, 90, 83, 66, 117, 98, 50, 53, 106, 90, 81, 61]⟩))⟩
  clear hb hg hne hg0 hb0
  go_enter Tryd.func27, Tryd.ntmps27
  go_wp2
  refine bodyPost_end (results_none rfl _ _ _) rfl ?_
  exact HN.out
set_option maxRecDepth 100000 in
set_option maxHeartbeats 1000000 in
theorem turn_7 (hb : Row W b #[.string ⟨#[71, 69, 84]⟩, .string ⟨#[47, 119, 115]⟩, .string ⟨#[]⟩, .int .i64 11, .slice (some ⟨g, 0, none⟩) 5 5, .string ⟨#[]⟩, .bool false] 24) (hg : Row W g askC 37) (hne : b ≠ g) : Calls Tryd.prog 28 #[.pointer (some ⟨b, 0, none⟩)] W (Trn W b g 7) := by
  have c4 : W.cell? ⟨b, 4, none⟩ = some (.slice (some ⟨g, 0, none⟩) 5 5) := cell_of_row W _ 4 _ _ (0, 0) hb
  have ix3 : ∀ w', (Instr.indexAt 22 (.slice (some ⟨g, 0, none⟩) 5 5) (.int .i64 3)).run Tryd.prog w' = .ok (.pointer (some ⟨g, 6, none⟩)) w' := run_index_at (P := Tryd.prog) Tryd.underlying22 (fun w => Tryd.sizeOf37 w) g 0 5 5 3 (by decide)
  have x0 := cell_of_row W g 7 _ _ (0, 0) hg
  have xf0 := Row.frozen hg 7
  have hg0 := Row.set hg 7 (.string ⟨#[100, 71, 104, 108, 73, 72, 78, 104, 98, 88, 66, 115, 90, 83, 66, 117, 98, 50, 53, 106]⟩)
  have hb0 := Row.other (a := ⟨g, 7, none⟩) (v := .string ⟨#[100, 71, 104, 108, 73, 72, 78, 104, 98, 88, 66, 115, 90, 83, 66, 117, 98, 50, 53, 106]⟩) hb hne
  have HN : Hid (Trn W b g 7 (.returned (.tuple #[])) (W.setCell ⟨g, 7, none⟩ (.string ⟨#[100, 71, 104, 108, 73, 72, 78, 104, 98, 88, 66, 115, 90, 83, 66, 117, 98, 50, 53, 106]⟩))) := Lib.hid ⟨rfl, ⟨_, _, _, hb0, fa_cells hg0 (by rfl) rfl⟩, moves_two (b := b) (g := g) (grown_cell W g 7 (.string ⟨#[100, 71, 104, 108, 73, 72, 78, 104, 98, 88, 66, 115, 90, 83, 66, 117, 98, 50, 53, 106]⟩))⟩
  clear hb hg hne hg0 hb0
  go_enter Tryd.func28, Tryd.ntmps28
  go_wp2
  refine bodyPost_end (results_none rfl _ _ _) rfl ?_
  exact HN.out
set_option maxRecDepth 100000 in
set_option maxHeartbeats 1000000 in
theorem turn_8 (hb : Row W b #[.string ⟨#[71, 69, 84]⟩, .string ⟨#[47, 119, 115]⟩, .string ⟨#[]⟩, .int .i64 11, .slice (some ⟨g, 0, none⟩) 5 5, .string ⟨#[]⟩, .bool false] 24) (hg : Row W g askC 37) (hne : b ≠ g) : Calls Tryd.prog 29 #[.pointer (some ⟨b, 0, none⟩)] W (Trn W b g 8) := by
  have c4 : W.cell? ⟨b, 4, none⟩ = some (.slice (some ⟨g, 0, none⟩) 5 5) := cell_of_row W _ 4 _ _ (0, 0) hb
  have ix1 : ∀ w', (Instr.indexAt 22 (.slice (some ⟨g, 0, none⟩) 5 5) (.int .i64 1)).run Tryd.prog w' = .ok (.pointer (some ⟨g, 2, none⟩)) w' := run_index_at (P := Tryd.prog) Tryd.underlying22 (fun w => Tryd.sizeOf37 w) g 0 5 5 1 (by decide)
  have x0 := cell_of_row W g 3 _ _ (0, 0) hg
  have xf0 := Row.frozen hg 3
  have hg0 := Row.set hg 3 (.string ⟨#[104, 50, 99, 44, 32, 87, 101, 98, 83, 111, 99, 107, 101, 116]⟩)
  have hb0 := Row.other (a := ⟨g, 3, none⟩) (v := .string ⟨#[104, 50, 99, 44, 32, 87, 101, 98, 83, 111, 99, 107, 101, 116]⟩) hb hne
  have HN : Hid (Trn W b g 8 (.returned (.tuple #[])) (W.setCell ⟨g, 3, none⟩ (.string ⟨#[104, 50, 99, 44, 32, 87, 101, 98, 83, 111, 99, 107, 101, 116]⟩))) := Lib.hid ⟨rfl, ⟨_, _, _, hb0, fa_cells hg0 (by rfl) rfl⟩, moves_two (b := b) (g := g) (grown_cell W g 3 (.string ⟨#[104, 50, 99, 44, 32, 87, 101, 98, 83, 111, 99, 107, 101, 116]⟩))⟩
  clear hb hg hne hg0 hb0
  go_enter Tryd.func29, Tryd.ntmps29
  go_wp2
  refine bodyPost_end (results_none rfl _ _ _) rfl ?_
  exact HN.out
set_option maxRecDepth 100000 in
set_option maxHeartbeats 1000000 in
theorem turn_9 (hb : Row W b #[.string ⟨#[71, 69, 84]⟩, .string ⟨#[47, 119, 115]⟩, .string ⟨#[]⟩, .int .i64 11, .slice (some ⟨g, 0, none⟩) 5 5, .string ⟨#[]⟩, .bool false] 24) (hg : Row W g askC 37) (hne : b ≠ g) : Calls Tryd.prog 30 #[.pointer (some ⟨b, 0, none⟩)] W (Trn W b g 9) := by
  have c4 : W.cell? ⟨b, 4, none⟩ = some (.slice (some ⟨g, 0, none⟩) 5 5) := cell_of_row W _ 4 _ _ (0, 0) hb
  have ix1 : ∀ w', (Instr.indexAt 22 (.slice (some ⟨g, 0, none⟩) 5 5) (.int .i64 1)).run Tryd.prog w' = .ok (.pointer (some ⟨g, 2, none⟩)) w' := run_index_at (P := Tryd.prog) Tryd.underlying22 (fun w => Tryd.sizeOf37 w) g 0 5 5 1 (by decide)
  have x0 := cell_of_row W g 3 _ _ (0, 0) hg
  have xf0 := Row.frozen hg 3
  have hg0 := Row.set hg 3 (.string ⟨#[119, 101, 98, 115, 111, 99, 107, 101, 116, 115]⟩)
  have hb0 := Row.other (a := ⟨g, 3, none⟩) (v := .string ⟨#[119, 101, 98, 115, 111, 99, 107, 101, 116, 115]⟩) hb hne
  have HN : Hid (Trn W b g 9 (.returned (.tuple #[])) (W.setCell ⟨g, 3, none⟩ (.string ⟨#[119, 101, 98, 115, 111, 99, 107, 101, 116, 115]⟩))) := Lib.hid ⟨rfl, ⟨_, _, _, hb0, fa_cells hg0 (by rfl) rfl⟩, moves_two (b := b) (g := g) (grown_cell W g 3 (.string ⟨#[119, 101, 98, 115, 111, 99, 107, 101, 116, 115]⟩))⟩
  clear hb hg hne hg0 hb0
  go_enter Tryd.func30, Tryd.ntmps30
  go_wp2
  refine bodyPost_end (results_none rfl _ _ _) rfl ?_
  exact HN.out
set_option maxRecDepth 100000 in
set_option maxHeartbeats 1000000 in
theorem turn_10 (hb : Row W b #[.string ⟨#[71, 69, 84]⟩, .string ⟨#[47, 119, 115]⟩, .string ⟨#[]⟩, .int .i64 11, .slice (some ⟨g, 0, none⟩) 5 5, .string ⟨#[]⟩, .bool false] 24) (hg : Row W g askC 37) (hne : b ≠ g) : Calls Tryd.prog 31 #[.pointer (some ⟨b, 0, none⟩)] W (Trn W b g 10) := by
  have c4 : W.cell? ⟨b, 4, none⟩ = some (.slice (some ⟨g, 0, none⟩) 5 5) := cell_of_row W _ 4 _ _ (0, 0) hb
  have ix2 : ∀ w', (Instr.indexAt 22 (.slice (some ⟨g, 0, none⟩) 5 5) (.int .i64 2)).run Tryd.prog w' = .ok (.pointer (some ⟨g, 4, none⟩)) w' := run_index_at (P := Tryd.prog) Tryd.underlying22 (fun w => Tryd.sizeOf37 w) g 0 5 5 2 (by decide)
  have x0 := cell_of_row W g 5 _ _ (0, 0) hg
  have xf0 := Row.frozen hg 5
  have hg0 := Row.set hg 5 (.string ⟨#[99, 108, 111, 115, 101]⟩)
  have hb0 := Row.other (a := ⟨g, 5, none⟩) (v := .string ⟨#[99, 108, 111, 115, 101]⟩) hb hne
  have HN : Hid (Trn W b g 10 (.returned (.tuple #[])) (W.setCell ⟨g, 5, none⟩ (.string ⟨#[99, 108, 111, 115, 101]⟩))) := Lib.hid ⟨rfl, ⟨_, _, _, hb0, fa_cells hg0 (by rfl) rfl⟩, moves_two (b := b) (g := g) (grown_cell W g 5 (.string ⟨#[99, 108, 111, 115, 101]⟩))⟩
  clear hb hg hne hg0 hb0
  go_enter Tryd.func31, Tryd.ntmps31
  go_wp2
  refine bodyPost_end (results_none rfl _ _ _) rfl ?_
  exact HN.out
set_option maxRecDepth 100000 in
set_option maxHeartbeats 1000000 in
theorem turn_11 (hb : Row W b #[.string ⟨#[71, 69, 84]⟩, .string ⟨#[47, 119, 115]⟩, .string ⟨#[]⟩, .int .i64 11, .slice (some ⟨g, 0, none⟩) 5 5, .string ⟨#[]⟩, .bool false] 24) (hg : Row W g askC 37) (hne : b ≠ g) : Calls Tryd.prog 32 #[.pointer (some ⟨b, 0, none⟩)] W (Trn W b g 11) := by
  have c4 : W.cell? ⟨b, 4, none⟩ = some (.slice (some ⟨g, 0, none⟩) 5 5) := cell_of_row W _ 4 _ _ (0, 0) hb
  obtain ⟨W1, hW1⟩ : ∃ W1, W1 = W.alloc (.cells #[.string ⟨#[72, 111, 115, 116]⟩, .string ⟨#[98]⟩] 37) := ⟨_, rfl⟩
  have hr1 : Row W1 W.heap.size #[.string ⟨#[72, 111, 115, 116]⟩, .string ⟨#[98]⟩] 37 := by rw [hW1]; exact row_new W _ _
  have hB1 : Below W.heap.size W W1 := by rw [hW1]; exact (Below.refl _ W).alloc (Nat.le_refl _) _
  have hb1 := hb.below hB1 hb.lt
  have hg1 := hg.below hB1 hg.lt
  have ho : W1.ownsRow g 37 2 (.slice (some ⟨g, 0, none⟩) 5 5) 5 (fcells asksF) := own_lit (fs := asksF) hg1 (Nat.le_refl _) (by rfl) (by decide)
  obtain ⟨a, cp, W2, hrun, hO, hgr, kk, hkk, hkw⟩ := run_addG (fs := asksF) ho (by decide) (Nat.le_of_lt hg1.lt) (b := W.heap.size) (f := ([72, 111, 115, 116], [98])) (CellsD.of_row hr1 (by rfl)) 22
  have hb2 : Row W2 b #[.string ⟨#[71, 69, 84]⟩, .string ⟨#[47, 119, 115]⟩, .string ⟨#[]⟩, .int .i64 11, .slice (some ⟨g, 0, none⟩) 5 5, .string ⟨#[]⟩, .bool false] 24 := row_grown hb1 hgr (fun e => hne (Option.some.inj e))
  have d4 : W2.cell? ⟨b, 4, none⟩ = some (.slice (some ⟨g, 0, none⟩) 5 5) := cell_of_row W2 _ 4 _ _ (0, 0) hb2
  have f4 := Row.frozen hb2 4
  have hb3 := Row.set hb2 4 (.slice a 6 cp)
  have hO3 := own_same hO (w' := W2.setCell ⟨b, 4, none⟩ (.slice a 6 cp)) fun j hj => Below.heap_setCell _ _ _ _ (fun e => by
    rw [hkk] at hj
    have e1 := Option.some.inj hj
    have hlb := hb.lt
    have := hB1.size
    rcases hkw with e2 | e2
    · exact hne (by rw [← show j = b from e, ← e1]; exact (Option.some.inj e2).symm)
    · have e3 : j = b := e
      omega)
  obtain ⟨gf, hfa3⟩ := CellsD.fa (fs := asksF ++ [([72, 111, 115, 116], [98])]) hO3
  have HN : Hid (Trn W b g 11 (.returned (.tuple #[])) (W2.setCell ⟨b, 4, none⟩ (.slice a 6 cp))) := Lib.hid ⟨rfl, ⟨_, _, _, hb3, hfa3⟩, moves_add hB1 hgr 4 _⟩
  have hrun' : (Builtin.append_ #[22, 22] 22 #[.slice (some ⟨g, 0, none⟩) 5 5, .slice (some ⟨W.heap.size, 0, none⟩) 1 1]).run Tryd.prog W1 = .ok (.slice a 6 cp) W2 := hrun
  rw [hW1] at hrun'
  clear hb hg hne hb1 hg1 ho hO hgr hb2 hb3 hfa3 hr1 hB1 hrun hW1 hO3 hkk hkw
  go_enter Tryd.func32, Tryd.ntmps32
  go_wp2_with (at_builtin; refine wpList_append17 rfl 22 22 (.tmp 6) (.tmp 8) _ _ rfl rfl rfl hrun' ?_)
  refine bodyPost_end (results_none rfl _ _ _) rfl ?_
  exact HN.out
set_option maxRecDepth 100000 in
set_option maxHeartbeats 1000000 in
theorem turn_12 (hb : Row W b #[.string ⟨#[71, 69, 84]⟩, .string ⟨#[47, 119, 115]⟩, .string ⟨#[]⟩, .int .i64 11, .slice (some ⟨g, 0, none⟩) 5 5, .string ⟨#[]⟩, .bool false] 24) (hg : Row W g askC 37) (hne : b ≠ g) : Calls Tryd.prog 33 #[.pointer (some ⟨b, 0, none⟩)] W (Trn W b g 12) := by
  have c4 : W.cell? ⟨b, 4, none⟩ = some (.slice (some ⟨g, 0, none⟩) 5 5) := cell_of_row W _ 4 _ _ (0, 0) hb
  have ix2 : ∀ w', (Instr.indexAt 22 (.slice (some ⟨g, 0, none⟩) 5 5) (.int .i64 2)).run Tryd.prog w' = .ok (.pointer (some ⟨g, 4, none⟩)) w' := run_index_at (P := Tryd.prog) Tryd.underlying22 (fun w => Tryd.sizeOf37 w) g 0 5 5 2 (by decide)
  have x0 := cell_of_row W g 4 _ _ (0, 0) hg
  have xf0 := Row.frozen hg 4
  have hg0 := Row.set hg 4 (.string ⟨#[67, 79, 78, 78, 69, 67, 84, 73, 79, 78]⟩)
  have hb0 := Row.other (a := ⟨g, 4, none⟩) (v := .string ⟨#[67, 79, 78, 78, 69, 67, 84, 73, 79, 78]⟩) hb hne
  have HN : Hid (Trn W b g 12 (.returned (.tuple #[])) (W.setCell ⟨g, 4, none⟩ (.string ⟨#[67, 79, 78, 78, 69, 67, 84, 73, 79, 78]⟩))) := Lib.hid ⟨rfl, ⟨_, _, _, hb0, fa_cells hg0 (by rfl) rfl⟩, moves_two (b := b) (g := g) (grown_cell W g 4 (.string ⟨#[67, 79, 78, 78, 69, 67, 84, 73, 79, 78]⟩))⟩
  clear hb hg hne hg0 hb0
  go_enter Tryd.func33, Tryd.ntmps33
  go_wp2
  refine bodyPost_end (results_none rfl _ _ _) rfl ?_
  exact HN.out
set_option maxRecDepth 100000 in
set_option maxHeartbeats 1000000 in
theorem turn_13 (hb : Row W b #[.string ⟨#[71, 69, 84]⟩, .string ⟨#[47, 119, 115]⟩, .string ⟨#[]⟩, .int .i64 11, .slice (some ⟨g, 0, none⟩) 5 5, .string ⟨#[]⟩, .bool false] 24) (hg : Row W g askC 37) (hne : b ≠ g) : Calls Tryd.prog 34 #[.pointer (some ⟨b, 0, none⟩)] W (Trn W b g 13) := by
  have c4 : W.cell? ⟨b, 4, none⟩ = some (.slice (some ⟨g, 0, none⟩) 5 5) := cell_of_row W _ 4 _ _ (0, 0) hb
  have ix1 : ∀ w', (Instr.indexAt 22 (.slice (some ⟨g, 0, none⟩) 5 5) (.int .i64 1)).run Tryd.prog w' = .ok (.pointer (some ⟨g, 2, none⟩)) w' := run_index_at (P := Tryd.prog) Tryd.underlying22 (fun w => Tryd.sizeOf37 w) g 0 5 5 1 (by decide)
  have ix4 : ∀ w', (Instr.indexAt 22 (.slice (some ⟨g, 0, none⟩) 5 5) (.int .i64 4)).run Tryd.prog w' = .ok (.pointer (some ⟨g, 8, none⟩)) w' := run_index_at (P := Tryd.prog) Tryd.underlying22 (fun w => Tryd.sizeOf37 w) g 0 5 5 4 (by decide)
  have x0 := cell_of_row W g 9 _ _ (0, 0) hg
  have xf0 := Row.frozen hg 9
  have hg0 := Row.set hg 9 (.string ⟨#[56]⟩)
  have hb0 := Row.other (a := ⟨g, 9, none⟩) (v := .string ⟨#[56]⟩) hb hne
  have c4b : (W.setCell ⟨g, 9, none⟩ (.string ⟨#[56]⟩)).cell? ⟨b, 4, none⟩ = some (.slice (some ⟨g, 0, none⟩) 5 5) := cell_of_row _ _ 4 _ _ (0, 0) hb0
  have x1 := cell_of_row (W.setCell ⟨g, 9, none⟩ (.string ⟨#[56]⟩)) g 3 _ _ (0, 0) hg0
  have xf1 := Row.frozen hg0 3
  have hg1 := Row.set hg0 3 (.string ⟨#[110, 111]⟩)
  have hb1 := Row.other (a := ⟨g, 3, none⟩) (v := .string ⟨#[110, 111]⟩) hb0 hne
  have HN : Hid (Trn W b g 13 (.returned (.tuple #[])) ((W.setCell ⟨g, 9, none⟩ (.string ⟨#[56]⟩)).setCell ⟨g, 3, none⟩ (.string ⟨#[110, 111]⟩))) := Lib.hid ⟨rfl, ⟨_, _, _, hb1, fa_cells hg1 (by rfl) rfl⟩, moves_two (b := b) (g := g) ((grown_two (grown_cell W g 9 (.string ⟨#[56]⟩)) (grown_cell _ g 3 (.string ⟨#[110, 111]⟩))))⟩
  clear hb hg hne hg0 hb0 hg1 hb1
  go_enter Tryd.func34, Tryd.ntmps34
  go_wp2
  refine bodyPost_end (results_none rfl _ _ _) rfl ?_
  exact HN.out
end
end Go.Proofs.YtnaekjmlikhglaaDoor
