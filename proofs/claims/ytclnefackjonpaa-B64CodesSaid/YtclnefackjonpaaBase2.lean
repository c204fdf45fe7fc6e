/- A text of one byte appended to a slice of one's own; a slice made. -/
import Derived.Test.YtclnefackjonpaaBase
namespace Go.Proofs.Ytclnefackjonpaa
open Go.RowKit

theorem run_push_text (w : World) (base : Nat) (ty : TypeId) (v : Value) (xs : List Value) (hown : Own base v xs w) (c : UInt8) (hlen : xs.length < 1000000000000) (hbase : base ≤ w.heap.size) :
    ∃ v' w', (Builtin.append_ #[29, 9] ty #[v, .string ⟨#[c]⟩]).run Try.prog w = .ok v' w' ∧ Own base v' (xs ++ [B c]) w' ∧ w.grownBy w' v.ownBlock := by
  obtain ⟨i, z, hi, hz, hs, hby, hzs⟩ := info5
  have ht := Try.underlying29
  have hu := Try.underlying9
  have hsz : (⟨#[c]⟩ : ByteArray).size = 1 := rfl
  have hdat : ((⟨#[c]⟩ : ByteArray).data.map fun b => Value.int .u8 b.toNat) = #[B c] := by simp [B]
  have hlen' : (xs ++ [B c]).length = xs.length + 1 := by simp
  have hmul : ∀ k, k * i.bytes ≤ k * 8 := fun k => Nat.mul_le_mul_left k hby
  rcases hown with ⟨rfl, rfl⟩ | ⟨g, cap, rfl, hbg, hgl, hnc, hcm, hcells, hthere⟩
  · have hr := run_append_nil_string (P := Try.prog) w 29 9 ty 5 i z ht hu hi hz ⟨#[c]⟩ (by rw [hsz]; omega) (by rw [hsz]; omega) (by rw [hsz]; have := hmul 1; omega)
    rw [hsz, hdat] at hr
    refine ⟨_, _, hr, ?_, ⟨rfl, rfl, rfl, by simp, fun k hk _ => heap_alloc_old w.drew _ hk⟩⟩
    exact own_new w [B c] _ _ (grownCap_ge w 1 0 5) (grownCap_le_maxLen w 1 0 5 (by simp [maxLen])) (by rw [size_zeroCells, hzs, Nat.mul_one]; rfl) hbase
  · by_cases hroom : xs.length + 1 ≤ cap
    · obtain ⟨hc, hf⟩ := hthere xs.length (by omega)
      rw [Nat.zero_add] at hc hf
      have hfc := Lib.run_firstCells_string (P := Try.prog) w i.size ⟨#[c]⟩
      rw [hsz] at hfc
      have hst : (storeCells ⟨g, xs.length, none⟩ [B c]).run Try.prog w = .ok () (w.setCell ⟨g, xs.length, none⟩ (B c)) := by
        rw [store_one]; exact run_store_ok Try.prog w _ (B c) _ rfl hc hf
      have hsc : Lib.strCells (⟨#[c]⟩ : ByteArray) = [B c] := rfl
      refine ⟨.slice (some ⟨g, 0, none⟩) (xs.length + 1) cap, w.setCell ⟨g, xs.length, none⟩ (B c), ?_, ?_, ?_⟩
      · rw [hs] at hfc
        simp [Builtin.append_, run_underlying ht, run_underlying hu, sizeOf, typeInfo, hi, Builtin.lenOf, hroom, hfc, hs, hsz, hsc, Addr.add_lit, hst]
      · refine .inr ⟨g, cap, by rw [hlen'], hbg, by simpa [World.setCell] using hgl, by omega, hcm, fun j u hu => ?_, fun j hj => ?_⟩
        · rw [Nat.zero_add]
          rcases Nat.lt_trichotomy j xs.length with hlt | rfl | hgt
          · rw [World.cell?_setCell_other (h := show (⟨g, xs.length, none⟩ : Addr) ≠ ⟨g, j, none⟩ by intro h; simp only [Addr.mk.injEq] at h; omega)]
            have := hcells j u (by rwa [List.getElem?_append_left hlt] at hu)
            rwa [Nat.zero_add] at this
          · rw [List.getElem?_append_right (Nat.le_refl _), Nat.sub_self] at hu
            simp only [List.getElem?_cons_zero, Option.some.injEq] at hu
            subst hu
            obtain ⟨u0, hu0⟩ := Option.isSome_iff_exists.1 hc
            exact World.cell?_setCell_same _ _ _ hu0
          · rw [List.getElem?_eq_none (by omega)] at hu; cases hu
        · obtain ⟨hc2, hf2⟩ := hthere j hj
          refine ⟨?_, by simpa using hf2⟩
          obtain ⟨u0, hu0⟩ := Option.isSome_iff_exists.1 hc2
          obtain ⟨v', hv'⟩ := cell?_setCell_some (p := ⟨g, xs.length, none⟩) (x := B c) hu0
          rw [hv']; rfl
      · exact ⟨rfl, rfl, rfl, by simp [World.setCell], fun k _ hn => Below.heap_setCell _ _ _ _ (fun h => hn (by simp [Value.ownBlock, h]))⟩
    · have holds : ∀ j u, xs[j]? = some u → w.cell? ((⟨g, 0, none⟩ : Addr).add j) = some u := fun j u hu => by
        rw [Addr.add_mid]; exact hcells j u hu
      have hr := Lib.run_append_grow_string (P := Try.prog) w 29 9 ty 5 i z ht hu hi hz ⟨g, 0, none⟩ xs.length cap xs (by rw [hs, Nat.mul_one]) holds ⟨#[c]⟩ (by rw [hsz]; omega) (by rw [hsz]; omega)
        (by rw [hsz]; exact growslice_fits (by omega) (by have := hmul (xs.length + 1); omega))
      rw [hsz] at hr
      refine ⟨_, _, hr, ?_, ⟨rfl, rfl, rfl, by simp, fun k hk _ => heap_alloc_old w.drew _ hk⟩⟩
      have := own_new (base := base) (e := 5) w (xs ++ [B c]) (Builtin.zeroCells z.cells (grownCap w (xs.length + 1) cap 5 - (xs.length + 1))) (grownCap w (xs.length + 1) cap 5)
        (by rw [hlen']; exact grownCap_ge w _ _ _) (grownCap_le_maxLen w _ _ _ (by simp only [maxLen]; omega)) (by rw [size_zeroCells, hzs, Nat.mul_one, hlen']) hbase
      simpa [Lib.strCells, B] using this

section
variable {ops : Array Oper} {rest : List Oper} {o : Oper} {a : Act} {w : World} {Q : Exit → Act → World → Prop}
/-- A text of one byte appended. -/
theorem wpList_push_text (hgd : o.guard = none) (s x : Operand) (ho : o.op = .call { callee := .builtin .append, args := #[s, x], argTypes := #[29, 9] }) (base : Nat)
    (v : Value) (hs : a.eval s = v) (l : List UInt8) (hown : Own base v (l.map B) w) (c : UInt8) (hx : a.eval x = .string ⟨#[c]⟩) (hlen : l.length < 1000000000000) (hbase : base ≤ w.heap.size)
    (h : ∀ v' w', Own base v' ((l ++ [c]).map B) w' → w.grownBy w' v.ownBlock → wpList Try.prog ops Q rest (a.put o.dst v') w') : wpList Try.prog ops Q (o :: rest) a w := by
  subst hs
  obtain ⟨v', w', hr, h2, h3⟩ := run_push_text w base o.type (a.eval s) (l.map B) hown c (by rw [List.length_map]; exact hlen) hbase
  refine wpList_exec hgd v' w' ?_ (h v' w' (by simpa using h2) h3)
  simp only [execOp, ho, resolve, invoke, builtin, Sem.run_bind, Sem.run_pure, Result.andThen_ok, List.map_toArray, List.map_cons, List.map_nil, hx, hr]

theorem own_made (w : World) (Z : Array Value) (cap base : Nat) (e : TypeId) (hm : cap ≤ maxLen) (hz : Z.size = cap) (hb : base ≤ w.heap.size) :
    Own base (.slice (some ⟨w.heap.size, 0, none⟩) 0 cap) [] (w.alloc (.cells Z e)) := by
  have hr : Row (w.alloc (.cells Z e)) w.heap.size Z e := row_new w _ _
  refine .inr ⟨w.heap.size, cap, rfl, hb, hr.lt, Nat.zero_le _, hm, fun j u hu => by simp at hu, fun j hj => ?_⟩
  rw [Nat.zero_add]
  refine ⟨?_, hr.frozen j⟩
  rw [cell_of_row _ _ j _ _ _ hr, Array.getElem?_eq_getElem (by omega)]; rfl
/-- A slice of bytes made, of none yet. -/
theorem wpList_make_bytes (hgd : o.guard = none) (x : Operand) (ho : o.op = .makeSlice 29 (.const (.int .i64 0)) x) (c : Nat) (hx : a.eval x = .int .i64 c) (hc : c < 1000000000000) (base : Nat) (hbase : base ≤ w.heap.size)
    (h : ∀ v' w', Own base v' [] w' → w.grownBy w' none → wpList Try.prog ops Q rest (a.put o.dst v') w') : wpList Try.prog ops Q (o :: rest) a w := by
  obtain ⟨i, z, hi, hz, hs, hby, hzs⟩ := info5
  have hr := run_make (P := Try.prog) w 29 5 i z Try.underlying29 hi hz .i64 .i64 0 c (Int.le_refl _) (by omega) (by
    have h1 : i.bytes * c ≤ 8 * c := Nat.mul_le_mul_right c hby
    have h2 : ((i.bytes * c : Nat) : Int) ≤ 281474976710656 := by omega
    rwa [Int.natCast_mul] at h2) (by omega)
  simp only [Int.toNat_zero, Int.toNat_natCast] at hr
  refine wpList_exec hgd _ _ ?_ (h _ _ (own_made w (madeCells z.cells (c * i.size)) c base 5 (by simp only [maxLen]; omega) (by rw [size_madeCells, hs, Nat.mul_one]) hbase) (World.grownBy_alloc w _ none))
  have he : a.eval (.const (.int .i64 0)) = .int .i64 0 := rfl
  simp only [execOp, ho, hx, he, Sem.run_bind, Sem.run_pure, Result.andThen_ok, hr]
end
end Go.Proofs.Ytclnefackjonpaa
