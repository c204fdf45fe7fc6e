/- Laws for texts that the walk doesn't look into: their length, what is left behind some bytes, their bytes copied. -/
import Derived.Test.YtihgmgphfdjcfaaDoorHash
namespace Go.Proofs.YtihgmgphfdjcfaaDoor
open Go.RowKit

/-- The variable 'start' holds the first words. -/
def Start (w : World) : Prop := w.rangeAt 0 0 (start5.l.map U)
/-- Only block b, and what was made since, may have turned. -/
structure Keeps (b : Nat) (w w' : World) : Prop where
  os : w'.os = w.os
  tape : w'.tape = w.tape
  output : w'.output = w.output
  size : w.heap.size ≤ w'.heap.size
  block : ∀ k, k < w.heap.size → k ≠ b → w'.heap[k]? = w.heap[k]?
section
variable {b : Nat} {w w' w'' : World}
theorem Keeps.refl (b : Nat) (w : World) : Keeps b w w := ⟨rfl, rfl, rfl, Nat.le_refl _, fun _ _ _ => rfl⟩
theorem Keeps.trans (h : Keeps b w w') (k : Keeps b w' w'') : Keeps b w w'' :=
  ⟨k.os.trans h.os, k.tape.trans h.tape, k.output.trans h.output, Nat.le_trans h.size k.size, fun i hi hn => (k.block i (Nat.lt_of_lt_of_le hi h.size) hn).trans (h.block i hi hn)⟩
theorem Keeps.of_below (h : Below w.heap.size w w') : Keeps b w w' := ⟨h.os, h.tape, h.output, h.size, fun k hk _ => h.block k hk⟩
theorem Keeps.drew (w : World) : Keeps b w w.drew := ⟨rfl, rfl, rfl, Nat.le_refl _, fun _ _ _ => rfl⟩
theorem Keeps.setRow (w : World) (cs : Array Value) : Keeps b w (w.setRow b cs) := ⟨rfl, rfl, rfl, by simp, fun k _ hn => setRow_other w b k cs hn⟩
theorem Keeps.setCell (w : World) (o : Nat) (v : Value) : Keeps b w (w.setCell ⟨b, o, none⟩ v) :=
  ⟨rfl, rfl, rfl, by simp [World.setCell], fun k _ hn => Below.heap_setCell _ _ _ _ hn⟩
theorem Keeps.below {k : Nat} (h : Keeps b w w') (hk : k ≤ w.heap.size) (hb : k ≤ b) : Below k w w' :=
  ⟨h.os, h.tape, h.output, h.size, fun i hi => h.block i (by omega) (by omega)⟩
theorem start_of_block (h : Start w) (e : w'.heap[0]? = w.heap[0]?) : Start w' := fun j v hv => by
  rw [World.cell?_of_block (w := w) e]; exact h j v hv
theorem Start.lt (h : Start w) : 0 < w.heap.size := World.block_lt_of_cell? w _ (h 0 _ rfl)
theorem Start.keeps (h : Start w) (k : Keeps b w w') (hb : b ≠ 0) : Start w' := start_of_block h (k.block 0 h.lt (fun e => hb e.symm))
theorem Start.below {k : Nat} (h : Start w) (hb : Below k w w') (hk : 0 < k) : Start w' := start_of_block h (hb.block 0 hk)
end

/-- Block b is a hash of the text t, and it may be gone on with at once. -/
def Mid (b : Nat) (t : List UInt8) (w : World) : Prop := ∃ ws bg, HRow w b ws bg t.length ∧ Inv t ws bg
/-- Block b is a hash of the text t. -/
def IsHash (b : Nat) (t : List UInt8) (w : World) : Prop := ∃ ws bg, HRow w b ws bg t.length ∧ bg.length = 64 ∧ (t ≠ [] → Inv t ws bg)
theorem Mid.isHash {b : Nat} {t : List UInt8} {w : World} (h : Mid b t w) : IsHash b t w := by
  obtain ⟨ws, bg, h1, h2⟩ := h; exact ⟨ws, bg, h1, h2.len, fun _ => h2⟩

section
variable {ops : Array Oper} {rest : List Oper} {o : Oper} {a : Act} {w : World} {Q : Exit → Act → World → Prop}

theorem wpList_exec (hgd : o.guard = none) (v : Value) (w' : World) (hrun : (execOp a.eval o).run Tryd.prog w = .ok (.value v) w')
    (h : wpList Tryd.prog ops Q rest (a.put o.dst v) w') : wpList Tryd.prog ops Q (o :: rest) a w :=
  wpList_plain hgd fun _ hK => by
    unfold Oper.wp
    rw [hrun]
    exact hK _ _ h

theorem S_size (r : List UInt8) : (⟨r.toArray⟩ : ByteArray).size = r.length := by simp [ByteArray.size]

theorem run_len_S (t : TypeId) (r : List UInt8) (w : World) : (Builtin.len_ #[9] t #[S r]).run Tryd.prog w = .ok (.int .i64 r.length) w := by
  have hu := Tryd.underlying9
  simp [Builtin.len_, S, run_underlying hu, S_size, Result.andThen, goInt]
theorem run_slice_S (r : List UInt8) (m : Nat) (hm : m ≤ r.length) (w : World) : (Instr.sliceAt 9 (S r) (some (.int .i64 m)) none none).run Tryd.prog w = .ok (S (r.drop m)) w := by
  have hu := Tryd.underlying9
  rw [run_sliceAt_string w 9 _ _ _ _ hu]
  have e : (⟨r.toArray⟩ : ByteArray).extract m r.length = ⟨(r.drop m).toArray⟩ := by
    apply ByteArray.ext
    rw [ByteArray.data_extract]; simp [List.take_of_length_le]
  simp [Instr.slice, S, run_underlying hu, Instr.sliceBounds, run_sliceBound, S_size, Result.andThen, hm, e]
theorem wpList_len_str (hgd : o.guard = none) (x : Operand) (ho : o.op = .call { callee := .builtin .len, args := #[x], argTypes := #[9] }) (r : List UInt8) (hx : a.eval x = S r)
    (h : wpList Tryd.prog ops Q rest (a.put o.dst (.int .i64 r.length)) w) : wpList Tryd.prog ops Q (o :: rest) a w := by
  refine wpList_exec hgd _ w ?_ h
  simp [execOp, ho, resolve, invoke, builtin, hx, run_len_S, Result.andThen]

theorem wpList_drop_str (hgd : o.guard = none) (x y : Operand) (ho : o.op = .slice 9 x (some y) none none) (r : List UInt8) (hx : a.eval x = S r) (m : Nat) (hy : a.eval y = .int .i64 m) (hm : m ≤ r.length)
    (h : wpList Tryd.prog ops Q rest (a.put o.dst (S (r.drop m))) w) : wpList Tryd.prog ops Q (o :: rest) a w := by
  refine wpList_exec hgd _ w ?_ h
  simp [execOp, ho, hx, hy, run_slice_S r m hm, Result.andThen]

/-- How long a text is, as a measure. -/
def slen : Value → Nat
  | .string s => s.size
  | _ => 0
theorem slen_S (r : List UInt8) : slen (S r) = r.length := S_size r

theorem wpList_copy_str (hgd : o.guard = none) (d s : Operand) (ho : o.op = .call { callee := .builtin .copy, args := #[d, s], argTypes := #[25, 9] })
    (g off dLen dCap : Nat) (r : List UInt8) (hd : a.eval d = .slice (some ⟨g, off, none⟩) dLen dCap) (hs : a.eval s = S r)
    (cur : Array Value) (t : TypeId) (hg : w.heap[g]? = some (.cells cur t (0, 0))) (m : Nat) (hm : m = Nat.min r.length dLen) (hfit : off + m ≤ cur.size)
    (h : wpList Tryd.prog ops Q rest (a.put o.dst (.int .i64 m)) (w.setRow g (cur.toList.take off ++ (r.take m).map B ++ cur.toList.drop (off + m)).toArray)) : wpList Tryd.prog ops Q (o :: rest) a w := by
  refine wpList_exec hgd _ _ ?_ h
  have hrun := run_copy_str w o.type g off dLen dCap cur t r m hm hg hfit
  simp [execOp, ho, resolve, invoke, builtin, hd, hs, hrun, Result.andThen, goInt]

/-- The begun block from byte i on. -/
theorem wpList_slice_begun (hgd : o.guard = none) (x y : Operand) (ho : o.op = .slice 36 x (some y) none none) (b : Nat) (hx : a.eval x = .pointer (some ⟨b, 5, none⟩)) (i : Int) (k : Nat)
    (hy : a.eval y = .int .i64 i) (hi : i = (k : Int)) (hk : k < 64)
    (h : wpList Tryd.prog ops Q rest (a.put o.dst (.slice (some ⟨b, 5 + k, none⟩) (64 - k) (64 - k))) w) : wpList Tryd.prog ops Q (o :: rest) a w := by
  refine wpList_exec hgd _ w ?_ h
  have hu := Tryd.underlying36
  have hz := Tryd.sizeOf5
  have hrun : (Instr.sliceAt 36 (.pointer (some ⟨b, 5, none⟩)) (some (.int .i64 (k : Int))) none none).run Tryd.prog w = .ok (.slice (some ⟨b, 5 + k, none⟩) (64 - k) (64 - k)) w := by
    have hn : ¬ 64 = k := by omega
    have hle : (0 : Int) ≤ (k : Int) ∧ (k : Int) ≤ 64 := by omega
    have hsb : (Instr.sliceBound (.int .i64 (k : Int)) 64 .sliceB).run Tryd.prog w = .ok k w := by
      simp [Instr.sliceBound, asIntOf, hle, go_sem]
    simp [Instr.sliceAt, Instr.sureAddr, run_underlying hu, Instr.sliceBounds, hsb, Result.andThen, hn, hz, Addr.add_mid]
  subst hi
  simp [execOp, ho, hx, hy, hrun, Result.andThen]

/-- A text copied into the begun block. -/
theorem wpList_copy_hash (hgd : o.guard = none) (d s : Operand) (ho : o.op = .call { callee := .builtin .copy, args := #[d, s], argTypes := #[25, 9] })
    (b i : Nat) (dCap : Nat) (r : List UInt8) (hd : a.eval d = .slice (some ⟨b, 5 + i, none⟩) (64 - i) dCap) (hs : a.eval s = S r)
    {ws : S5} {bg : List UInt8} {n : Nat} (hr : HRow w b ws bg n) (hb : bg.length = 64) (m : Nat) (hm : m = Nat.min r.length (64 - i)) (hi : i + m ≤ 64)
    (h : ∀ w', HRow w' b ws (put bg r i m) n → Keeps b w w' → wpList Tryd.prog ops Q rest (a.put o.dst (.int .i64 m)) w') : wpList Tryd.prog ops Q (o :: rest) a w := by
  refine wpList_copy_str hgd d s ho b (5 + i) (64 - i) dCap r hd hs (hcl ws bg n).toArray 38 hr.cells m hm (by rw [List.size_toArray, hcl_length _ _ _ hb]; omega) ?_
  exact h _ (hr.setRow (hcl_put ws bg r n i m hb hi)) (Keeps.setRow _ _)

/-- How many bytes there were, stored anew. -/
theorem wpList_store_n (hgd : o.guard = none) (hdst : o.dst = none) (x y : Operand) (ho : o.op = .store 3 x y) (b : Nat) (hx : a.eval x = .pointer (some ⟨b, 69, none⟩)) (i : Int) (k : Nat)
    (hy : a.eval y = .int .i64 i) (hi : i = (k : Int)) {ws : S5} {bg : List UInt8} {n : Nat} (hr : HRow w b ws bg n) (hb : bg.length = 64)
    (h : ∀ w', HRow w' b ws bg k → Keeps b w w' → wpList Tryd.prog ops Q rest a w') : wpList Tryd.prog ops Q (o :: rest) a w := by
  subst hi
  have hz := Tryd.sizeOf3
  have hc := hr.num hb
  have hrun : (storeVar 3 ⟨b, 69, none⟩ (.int .i64 (k : Int))).run Tryd.prog w = .ok () (w.setCell ⟨b, 69, none⟩ (.int .i64 (k : Int))) := by
    have hcells : (Value.int .i64 (k : Int)).cells = #[.int .i64 (k : Int)] := rfl
    have hst := run_store_ok Tryd.prog w ⟨b, 69, none⟩ (.int .i64 (k : Int)) .plain rfl (by rw [hc]; rfl) (Row.frozen hr.cells 69)
    simp only [storeVar, hcells, Sem.run_bind, hz, Result.andThen_ok]
    simp [store_one, hst]
  refine wpList_plain hgd fun _ hK => ?_
  unfold Oper.wp execOp
  simp only [ho, hx, hy, Instr.storeAt, Instr.sureAddr, Sem.run_bind, Sem.run_pure, Result.andThen_ok, hrun]
  have e : a.put o.dst undef = a := by rw [hdst]; rfl
  have := hK _ _ (h _ (hr.set hb k) (Keeps.setCell _ _ _))
  rw [← e] at this; exact this

/-- The five words, stored anew. -/
theorem wpList_store_ws (hgd : o.guard = none) (hdst : o.dst = none) (x y : Operand) (ho : o.op = .store 35 x y) (b : Nat) (hx : a.eval x = .pointer (some ⟨b, 0, none⟩)) (ws' : S5)
    (hy : a.eval y = .agg (ucells ws'.l)) {ws : S5} {bg : List UInt8} {n : Nat} (hr : HRow w b ws bg n) (hb : bg.length = 64)
    (h : ∀ w', HRow w' b ws' bg n → Keeps b w w' → wpList Tryd.prog ops Q rest a w') : wpList Tryd.prog ops Q (o :: rest) a w := by
  have i35 : (Tryd.prog.info? 35).map (·.size) = some (ucells ws'.l).size := by kernel_rfl
  refine wpList_store_at hgd 35 x y ho b 0 (ucells ws'.l) (hcl ws bg n).toArray 38 hx hy hr.cells i35 ?_ (fun v hv => ?_) (by rw [hdst]; exact h _ (hr.setRow rfl) (Keeps.setRow _ _))
  · have e : (hcl ws bg n).toArray.size = 70 := by rw [List.size_toArray, hcl_length _ _ _ hb]
    have e2 : (ucells ws'.l).size = 5 := by rw [ucells_size]; rfl
    omega
  · simp only [ucells, List.mem_map] at hv
    obtain ⟨x, _, rfl⟩ := hv; rfl

theorem HRow.store5 {ws : S5} {bg : List UInt8} {n : Nat} {b : Nat} (hr : HRow w b ws bg n) (hb : bg.length = 64) (ws' : S5) :
    (storeCells ⟨b, 0, none⟩ (ucells ws'.l).toList).run Tryd.prog w = .ok () (w.setRow b (hcl ws' bg n).toArray) := by
  have h := run_storeCells_at Tryd.prog b 0 38 (ws'.l.map U) 0 (hcl ws bg n).toArray w hr.cells (by
    rw [List.length_map, List.size_toArray, hcl_length _ _ _ hb]; simp [S5.l]) (fun v hv => by
      obtain ⟨x, _, rfl⟩ := List.mem_map.1 hv; rfl)
  exact h

/-- What a hash's cells hold, one by one. -/
theorem HRow.all {ws : S5} {bg : List UInt8} {n : Nat} {b : Nat} (hr : HRow w b ws bg n) :
    w.rangeAt b 5 (bg.map B) ∧ w.cell? ⟨b, 0, none⟩ = some (U ws.a) ∧ w.cell? ⟨b, 1, none⟩ = some (U ws.b) ∧ w.cell? ⟨b, 2, none⟩ = some (U ws.c) ∧ w.cell? ⟨b, 3, none⟩ = some (U ws.d) ∧
      w.cell? ⟨b, 4, none⟩ = some (U ws.e) ∧ w.frozen? ⟨b, 0, none⟩ = false ∧ w.frozen? ⟨b, 1, none⟩ = false ∧ w.frozen? ⟨b, 2, none⟩ = false ∧ w.frozen? ⟨b, 3, none⟩ = false ∧ w.frozen? ⟨b, 4, none⟩ = false :=
  ⟨hr.range2, hr.range 0 _ rfl, hr.range 1 _ rfl, hr.range 2 _ rfl, hr.range 3 _ rfl, hr.range 4 _ rfl,
    Row.frozen hr.cells 0, Row.frozen hr.cells 1, Row.frozen hr.cells 2, Row.frozen hr.cells 3, Row.frozen hr.cells 4⟩

/-- The five words, loaded, in a region that only reads. -/
theorem wpStill_load_ws {Q : Act → Prop} (hgd : o.guard = none) (x : Operand) (ho : o.op = .load 35 x) (b : Nat) (hx : a.eval x = .pointer (some ⟨b, 0, none⟩))
    {ws : S5} {bg : List UInt8} {n : Nat} (hr : HRow w b ws bg n) (h : wpStill Tryd.prog ops w Q rest (a.put o.dst (.agg (ucells ws.l)))) : wpStill Tryd.prog ops w Q (o :: rest) a :=
  wpStill_load_mid hgd 35 x ho b 0 hx (ws.l.map U) _ hr.range Tryd.underlying35 rfl (by kernel_rfl) h
/-- The begun block, loaded, in a region that only reads. -/
theorem wpStill_load_bg {Q : Act → Prop} (hgd : o.guard = none) (x : Operand) (ho : o.op = .load 36 x) (b : Nat) (hx : a.eval x = .pointer (some ⟨b, 5, none⟩))
    {ws : S5} {bg : List UInt8} {n : Nat} (hr : HRow w b ws bg n) (hb : bg.length = 64) (h : wpStill Tryd.prog ops w Q rest (a.put o.dst (.agg (bcells bg)))) : wpStill Tryd.prog ops w Q (o :: rest) a :=
  wpStill_load_mid hgd 36 x ho b 5 hx (bg.map B) _ hr.range2 Tryd.underlying36 rfl (by rw [List.length_map, hb]; kernel_rfl) h
/-- The five words, loaded. -/
theorem wpList_load_ws (hgd : o.guard = none) (x : Operand) (ho : o.op = .load 35 x) (b : Nat) (hx : a.eval x = .pointer (some ⟨b, 0, none⟩))
    {ws : S5} {bg : List UInt8} {n : Nat} (hr : HRow w b ws bg n) (h : wpList Tryd.prog ops Q rest (a.put o.dst (.agg (ucells ws.l))) w) : wpList Tryd.prog ops Q (o :: rest) a w :=
  wpList_load_mid hgd 35 x ho b 0 hx (ws.l.map U) _ hr.range Tryd.underlying35 rfl (by kernel_rfl) h
/-- The first words, loaded. -/
theorem wpList_load_start (hgd : o.guard = none) (ho : o.op = .load 35 (.global 0)) (hs : Start w)
    (h : wpList Tryd.prog ops Q rest (a.put o.dst (.agg (ucells start5.l))) w) : wpList Tryd.prog ops Q (o :: rest) a w :=
  wpList_load_mid hgd 35 (.global 0) ho 0 0 rfl (start5.l.map U) _ hs Tryd.underlying35 rfl (by kernel_rfl) h
end
end Go.Proofs.YtihgmgphfdjcfaaDoor
