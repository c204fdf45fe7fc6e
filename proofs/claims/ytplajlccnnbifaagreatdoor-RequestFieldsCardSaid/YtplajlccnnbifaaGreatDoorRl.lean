/- What a parser has, one by one: gets walked. (mkrl.py writes it.) -/
import Derived.Test.YtplajlccnnbifaaGreatDoorJc
namespace Go.Proofs.YtplajlccnnbifaaGreatDoor
open Go.RowKit
attribute [local go_sem] store_one S_match S_store

/-- Seven cells. -/
def SevenAt (W : World) (b o : Nat) (v0 v1 v2 v3 v4 v5 v6 : Value) : Prop :=
  W.cell? ⟨b, o, none⟩ = some v0 ∧ W.cell? ⟨b, o + 1, none⟩ = some v1 ∧ W.cell? ⟨b, o + 2, none⟩ = some v2 ∧ W.cell? ⟨b, o + 3, none⟩ = some v3 ∧ W.cell? ⟨b, o + 4, none⟩ = some v4 ∧ W.cell? ⟨b, o + 5, none⟩ = some v5 ∧ W.cell? ⟨b, o + 6, none⟩ = some v6
theorem SevenAt.below {W W' : World} {b o : Nat} {v0 v1 v2 v3 v4 v5 v6 : Value} (h : SevenAt W b o v0 v1 v2 v3 v4 v5 v6) (hb : Below W.heap.size W W') : SevenAt W' b o v0 v1 v2 v3 v4 v5 v6 := by
  obtain ⟨h0, h1, h2, h3, h4, h5, h6⟩ := h
  have k : ∀ o u, W.cell? ⟨b, o, none⟩ = some u → W'.cell? ⟨b, o, none⟩ = some u := fun o u h => by rw [hb.cell (World.block_lt_of_cell? W _ h)]; exact h
  exact ⟨k _ _ h0, k _ _ h1, k _ _ h2, k _ _ h3, k _ _ h4, k _ _ h5, k _ _ h6⟩
theorem seven_row {W : World} {b : Nat} {t : TypeId} {m p q : List UInt8} {v : Nat} {V : Value} {bd : List UInt8} {cl : Bool} (h : Row W b (rqCells m p q v V bd cl) t) : SevenAt W b 0 (S m) (S p) (S q) (.int .i64 (v : Int)) V (S bd) (.bool cl) :=
  ⟨cell_of_row W b 0 _ t (0, 0) h, cell_of_row W b 1 _ t (0, 0) h, cell_of_row W b 2 _ t (0, 0) h, cell_of_row W b 3 _ t (0, 0) h, cell_of_row W b 4 _ t (0, 0) h, cell_of_row W b 5 _ t (0, 0) h, cell_of_row W b 6 _ t (0, 0) h⟩
theorem Reqs.kept {w w' : World} {base : Nat} {K : Nat → Prop} {V : Value} {xs : List (Rq × Value × Nat)} (h : Reqs w base K V xs) (hb : ∀ k, K k → w'.heap[k]? = w.heap[k]?) (ho : ∀ k, K k → k < w'.heap.size) : Reqs w' base K V xs :=
  ⟨own_same h.row (fun j hj => hb j (h.own j hj)), h.own, fun x hx => by
    obtain ⟨h1, h2⟩ := h.each x hx
    exact ⟨h1.same (fun hne => hb _ (h2.resolve_left hne).1), h2⟩, ho⟩
theorem Reqs.short {w : World} {base : Nat} {K : Nat → Prop} {V : Value} {xs : List (Rq × Value × Nat)} (h : Reqs w base K V xs) : xs.length ≤ 9223372036854775807 := by
  rcases h.row.2 with ⟨_, h0⟩ | ⟨g, cap, cur, rfl, hb, hg, hn, hm, _⟩
  · omega
  · simp only [maxLen] at hm; omega
theorem OneK.lt {RA : World → (Nat → Prop) → Nat → PSt → Prop} {w W : World} {g : Nat} {st : PSt} {K : Nat → Prop} (h : OneK RA w g st K W) : ∀ k, K k → k < W.heap.size := fun k hk => by
  obtain ⟨⟨F, _, _, h3⟩, _⟩ := h
  exact (h3 k hk).1
/-- One of a list: where it lies, its cells, its fields. -/
theorem Reqs.get {w : World} {base : Nat} {K : Nat → Prop} {V : Value} {xs : List (Rq × Value × Nat)} (h : Reqs w base K V xs) {i : Nat} {x : Rq × Value × Nat} (hx : xs[i]? = some x) :
    ∃ gl a c gf, (∀ W, (Instr.indexAt 42 V (.int .i64 (i : Int))).run Tryz.prog W = .ok (.pointer (some ⟨gl, i * 7, none⟩)) W) ∧
      SevenAt w gl (i * 7) (S x.1.m) (S x.1.p) (S x.1.q) (.int .i64 (x.1.v : Int)) (.slice a x.1.fs.length c) (S x.1.body) (.bool x.1.cl) ∧ FldsAt w (.slice a x.1.fs.length c) x.1.fs gf := by
  obtain ⟨g, _, h1, h2⟩ := h.at hx
  obtain ⟨h3, _⟩ := h.each x (List.mem_of_getElem? hx)
  obtain ⟨a, c, e⟩ := h3.form
  refine ⟨g, a, c, x.2.2, h1, ?_, by rw [← e]; exact h3⟩
  unfold SevenAt
  rw [← e]
  exact ⟨h2 0 _ rfl, h2 1 _ rfl, h2 2 _ rfl, h2 3 _ rfl, h2 4 _ rfl, h2 5 _ rfl, h2 6 _ rfl⟩
end Go.Proofs.YtplajlccnnbifaaGreatDoor
