/- Laws for a hash in memory: many cells in the midst of a block; copy of a text into them. -/
import Derived.Test.YtihgmgphfdjcfaaDoorWords2
import Derived.Test.YtihgmgphfdjcfaaDoorMath2
import Derived.Laws.CopyRow
import Derived.Still
import Derived.Lib.Hide
namespace Go.Proofs.YtihgmgphfdjcfaaDoor
open Go.RowKit

section
variable {P : Program}
theorem run_storeVar_at (w : World) (g o : Nat) (t ty : TypeId) (cells cur : Array Value) (hg : w.heap[g]? = some (.cells cur t (0, 0))) (hi : (P.info? ty).map (·.size) = some cells.size)
    (hfit : o + cells.size ≤ cur.size) (h1 : ∀ v ∈ cells.toList, v.oneCell' = true) :
    (storeVar ty ⟨g, o, none⟩ (.agg cells)).run P w = .ok () (w.setRow g (cur.toList.take o ++ cells.toList ++ cur.toList.drop (o + cells.size)).toArray) := by
  have := run_storeCells_at P g o t cells.toList 0 cur w hg (by simpa using hfit) h1
  cases hq : P.info? ty with
  | none => simp [hq] at hi
  | some i =>
    have hs : cells.size = i.size := by simp [hq] at hi; omega
    simp only [Nat.add_zero, Array.length_toList] at this
    simp [storeVar, sizeOf, typeInfo, hq, Value.cells, hs, this]

theorem wpList_store_at {ops : Array Oper} {rest : List Oper} {op : Oper} {a : Act} {w : World} {Q : Exit → Act → World → Prop} (hgd : op.guard = none) (ty : TypeId) (x y : Operand) (ho : op.op = .store ty x y)
    (g o : Nat) (cells cur : Array Value) (t : TypeId) (hx : a.eval x = .pointer (some ⟨g, o, none⟩)) (hy : a.eval y = .agg cells)
    (hg : w.heap[g]? = some (.cells cur t (0, 0))) (hi : (P.info? ty).map (·.size) = some cells.size)
    (hfit : o + cells.size ≤ cur.size) (h1 : ∀ v ∈ cells.toList, v.oneCell' = true)
    (h : wpList P ops Q rest (a.put op.dst undef) (w.setRow g (cur.toList.take o ++ cells.toList ++ cur.toList.drop (o + cells.size)).toArray)) : wpList P ops Q (op :: rest) a w :=
  wpList_plain hgd fun _ hK => by
    unfold Oper.wp execOp
    simp only [ho, hx, hy, Instr.storeAt, Instr.sureAddr, Sem.run_bind, Sem.run_pure, Result.andThen_ok, run_storeVar_at w g o t ty cells cur hg hi hfit h1]
    exact hK _ _ h

theorem wpStill_load_mid {ops : Array Oper} {w : World} {Q : Act → Prop} {op : Oper} {rest : List Oper} {a : Act} (hgd : op.guard = none) (ty : TypeId) (x : Operand) (ho : op.op = .load ty x)
    (b o : Nat) (hx : a.eval x = .pointer (some ⟨b, o, none⟩)) (cs : List Value) (d : TypeDesc) (hc : w.rangeAt b o cs)
    (hu : P.underlying ty = some d) (hd : d.isRow = true) (hi : (P.info? ty).map (·.size) = some cs.length)
    (h : wpStill P ops w Q rest (a.put op.dst (.agg cs.toArray))) : wpStill P ops w Q (op :: rest) a := by
  unfold wpStill
  simp only [Region.wanted, hgd, if_true]
  unfold Oper.still execOp
  simp only [ho, hx, Instr.loadAt, Instr.sureAddr, Sem.run_bind, Sem.run_pure, Result.andThen_ok, run_loadVar_mid w b o ty cs d hc hu hd hi]
  exact ⟨rfl, h⟩
end

/-- A text copied into a row of bytes. -/
theorem run_copy_str (w : World) (ty : TypeId) (g o dLen dCap : Nat) (cur : Array Value) (t : TypeId) (s : List UInt8) (m : Nat) (hm : m = Nat.min s.length dLen)
    (hg : w.heap[g]? = some (.cells cur t (0, 0))) (hfit : o + m ≤ cur.size) :
    (Builtin.copy_ #[25, 9] ty #[.slice (some ⟨g, o, none⟩) dLen dCap, S s]).run Tryd.prog w =
      .ok (goInt m) (w.setRow g (cur.toList.take o ++ (s.take m).map B ++ cur.toList.drop (o + m)).toArray) := by
  have hl : ((s.take m).map B).length = m := by
    rw [List.length_map, List.length_take, hm]; exact Nat.min_eq_left (Nat.min_le_left _ _)
  have hst := run_storeCells_at Tryd.prog g o t ((s.take m).map B) 0 cur w hg (by rw [hl]; simpa using hfit) (fun v hv => by
    obtain ⟨b, _, rfl⟩ := List.mem_map.1 hv; rfl)
  rw [hl, Nat.add_zero] at hst
  have hu := Tryd.underlying25
  have hz := Tryd.sizeOf5
  have hlen : (⟨s.toArray⟩ : ByteArray).size = s.length := by simp [ByteArray.size]
  have hext : (((⟨s.toArray⟩ : ByteArray).extract 0 m).data.map fun b => Value.int .u8 (b.toNat : Int)).toList = (s.take m).map B := by
    rw [ByteArray.data_extract]
    simp
    rfl
  simp only [Builtin.copy_, S, Builtin.lenOf, Builtin.firstCells]
  simp only [List.getElem?_toArray, List.getElem?_cons_zero, List.getElem?_cons_succ, run_underlying hu, Sem.run_bind, Result.andThen_ok, Sem.run_pure, hz, hlen, ← hm, hext, hst]

/-- A hash's cells: five words, the begun block, how many bytes there were. -/
def hcl (ws : S5) (bg : List UInt8) (n : Nat) : List Value := ws.l.map U ++ (bg.map B ++ [.int .i64 n])
theorem hcl_length (ws : S5) (bg : List UInt8) (n : Nat) (h : bg.length = 64) : (hcl ws bg n).length = 70 := by
  simp [hcl, S5.l, h]

theorem hcl_word (ws : S5) (bg : List UInt8) (n : Nat) : (hcl ws bg n).take 5 = ws.l.map U := rfl
theorem hcl_n (ws : S5) (bg : List UInt8) (n : Nat) (h : bg.length = 64) : (hcl ws bg n)[69]? = some (.int .i64 n) := by
  rw [hcl, List.getElem?_append_right (by simp [S5.l]), List.getElem?_append_right (by simp [S5.l, h])]
  simp [S5.l, h]
theorem hcl_set (ws : S5) (bg : List UInt8) (n m : Nat) (h : bg.length = 64) : (hcl ws bg n).set 69 (.int .i64 m) = hcl ws bg m := by
  rw [hcl, List.set_append_right _ _ (by simp [S5.l]), List.set_append_right _ _ (by simp [S5.l, h])]
  simp [S5.l, h, hcl]
theorem hcl_ws (ws ws' : S5) (bg : List UInt8) (n : Nat) : (hcl ws bg n).take 0 ++ ws'.l.map U ++ (hcl ws bg n).drop 5 = hcl ws' bg n := rfl
theorem hcl_put (ws : S5) (bg r : List UInt8) (n i m : Nat) (h : bg.length = 64) (hi : i + m ≤ 64) :
    (hcl ws bg n).take (5 + i) ++ (r.take m).map B ++ (hcl ws bg n).drop (5 + i + m) = hcl ws (put bg r i m) n := by
  have e1 : (hcl ws bg n).take (5 + i) = ws.l.map U ++ (bg.take i).map B := by
    rw [hcl, List.take_append, List.take_of_length_le (by simp [S5.l]), List.take_append_of_le_length (by simp [S5.l, h]; omega)]
    simp [S5.l, List.map_take]
  have e2 : (hcl ws bg n).drop (5 + i + m) = (bg.drop (i + m)).map B ++ [.int .i64 n] := by
    rw [hcl, List.drop_append, List.drop_of_length_le (by simp [S5.l]; omega), List.drop_append_of_le_length (by simp [S5.l, h]; omega)]
    have : 5 + i + m - (List.map U ws.l).length = i + m := by simp [S5.l]; omega
    rw [this]; simp [List.map_drop]
  rw [e1, e2, hcl, put]; simp

/-- Block b is a hash with these parts. -/
def HRow (w : World) (b : Nat) (ws : S5) (bg : List UInt8) (n : Nat) : Prop := Row w b (hcl ws bg n).toArray 38
section
variable {w : World} {b : Nat} {ws : S5} {bg : List UInt8} {n : Nat}
theorem HRow.cells (h : HRow w b ws bg n) : Row w b (hcl ws bg n).toArray 38 := h
theorem HRow.num (h : HRow w b ws bg n) (hb : bg.length = 64) : w.cell? ⟨b, 69, none⟩ = some (.int .i64 n) := by
  rw [cell_of_row w b 69 _ 38 (0, 0) h.cells]; simpa using hcl_n ws bg n hb
theorem HRow.set (h : HRow w b ws bg n) (hb : bg.length = 64) (m : Nat) : HRow (w.setCell ⟨b, 69, none⟩ (.int .i64 m)) b ws bg m := by
  have := Row.set h.cells 69 (.int .i64 m)
  rw [List.setIfInBounds_toArray, hcl_set ws bg n m hb] at this; exact this
theorem HRow.range (h : HRow w b ws bg n) : w.rangeAt b 0 (ws.l.map U) := fun j v hv => by
  rw [Nat.zero_add, cell_of_row w b j _ 38 (0, 0) h.cells, List.getElem?_toArray, hcl]
  rw [List.getElem?_append_left (List.getElem?_eq_some_iff.1 hv).1]; exact hv
theorem HRow.range2 (h : HRow w b ws bg n) : w.rangeAt b 5 (bg.map B) := fun j v hv => by
  rw [cell_of_row w b (5 + j) _ 38 (0, 0) h.cells, List.getElem?_toArray, hcl, List.getElem?_append_right (by simp [S5.l])]
  have : 5 + j - (List.map U ws.l).length = j := by simp [S5.l]
  rw [this, List.getElem?_append_left (List.getElem?_eq_some_iff.1 hv).1]; exact hv
theorem HRow.drew (h : HRow w b ws bg n) : HRow w.drew b ws bg n := h
theorem HRow.lt (h : HRow w b ws bg n) : b < w.heap.size := Row.lt h
theorem HRow.below {w' : World} {k : Nat} (h : HRow w b ws bg n) (hb : Below k w w') (hg : b < k) : HRow w' b ws bg n := Row.below h hb hg
theorem HRow.setRow (h : HRow w b ws bg n) {ws' : S5} {bg' : List UInt8} {n' : Nat} {cs : List Value} (e : cs = hcl ws' bg' n') : HRow (w.setRow b cs.toArray) b ws' bg' n' := by
  rw [e]; exact setRow_heap w b _ _ 38 (0, 0) h.cells
end

end Go.Proofs.YtihgmgphfdjcfaaDoor
