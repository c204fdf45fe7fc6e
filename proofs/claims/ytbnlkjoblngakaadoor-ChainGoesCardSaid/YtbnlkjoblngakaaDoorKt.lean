/- Rows of the document's steps, what Goes answers (stage 13). (mkkt.py writes it.) -/
import Derived.Test.YtbnlkjoblngakaaDoorKs
namespace Go.Proofs.YtbnlkjoblngakaaDoor
open Go.RowKit Go.Shelf
attribute [local go_sem] store_one S_match S_store eguard_BN nguard_BN

/-- A row of the document's steps, wherever it lies. -/
structure StB (w : World) (V : Value) (l : List Stp) (b o : Nat) : Prop where
  len : ∀ T w', (Builtin.len_ #[30] T #[V]).run Tryd.prog w' = .ok (.int .i64 (l.length : Int)) w'
  index : ∀ i, i < l.length → ∀ w', (Instr.indexAt 30 V (.int .i64 (i : Int))).run Tryd.prog w' = .ok (.pointer (some ⟨b, o + i * 4, none⟩)) w'
  cell : ∀ i s, l[i]? = some s → ∀ j v, (stC s)[j]? = some v → w.cell? ⟨b, o + i * 4 + j, none⟩ = some v
theorem StB.below {w w' : World} {V : Value} {l : List Stp} {b o : Nat} (h : StB w V l b o) (hb : Below w.heap.size w w') : StB w' V l b o :=
  ⟨h.len, h.index, fun i s hs j v hv => by
    have h1 := h.cell i s hs j v hv
    rw [hb.cell (World.block_lt_of_cell? w _ h1)]; exact h1⟩
/-- The steps before i let it pass, and the path is p then. -/
def AtG (fs : Fds) (body : Tx) (l : List Stp) (p0 : Tx) (i : Nat) (p : Tx) : Prop := goS fs body l p0 = (i + (goS fs body (l.drop i) p).1, (goS fs body (l.drop i) p).2)
theorem AtG.start (fs : Fds) (body : Tx) (l : List Stp) (p : Tx) : AtG fs body l p 0 p := by unfold AtG; rw [List.drop_zero, Nat.zero_add]
theorem AtG.next {fs : Fds} {body : Tx} {l : List Stp} {p0 p q : Tx} {i : Nat} {s : Stp} (h : AtG fs body l p0 i p) (hs : l[i]? = some s) (hq : stepS fs body s p = .inl q) : AtG fs body l p0 (i + 1) q := by
  obtain ⟨hi, rfl⟩ := List.getElem?_eq_some_iff.1 hs
  unfold AtG at h ⊢
  rw [h, List.drop_eq_getElem_cons hi, goS, hq]
  show (i + ((goS fs body (l.drop (i + 1)) q).1 + 1), (goS fs body (l.drop (i + 1)) q).2) = _
  rw [show i + ((goS fs body (l.drop (i + 1)) q).1 + 1) = i + 1 + (goS fs body (l.drop (i + 1)) q).1 by omega]
theorem AtG.stop {fs : Fds} {body : Tx} {l : List Stp} {p0 p : Tx} {i : Nat} {s : Stp} {x : Nat × Tx} (h : AtG fs body l p0 i p) (hs : l[i]? = some s) (hq : stepS fs body s p = .inr x) : goS fs body l p0 = (i, p, some x) := by
  obtain ⟨hi, rfl⟩ := List.getElem?_eq_some_iff.1 hs
  unfold AtG at h
  rw [h, List.drop_eq_getElem_cons hi, goS, hq]
  rfl
theorem AtG.done {fs : Fds} {body : Tx} {l : List Stp} {p0 p : Tx} {i : Nat} (h : AtG fs body l p0 i p) (hi : i = l.length) : goS fs body l p0 = (l.length, p, none) := by
  unfold AtG at h
  rw [h, hi, List.drop_length]
  rfl
def goesR (g : Nat × Tx × Option (Nat × Tx)) (r : Rq) (V : Value) : Value := .tuple #[.int .i64 (g.1 : Int), rqV { r with p := g.2.1 } V, match g.2.2 with | some x => rpV (x.1 : Int) (.slice none 0 0) x.2 | none => rpV 0 (.slice none 0 0) []]
/-- Three results, two of them structs in variables of their own. -/
theorem results_row_two13 {P : Program} {fn : Func} {t p1 p2 : Tmp} {ty1 ty2 : TypeId} (h : fn.results = #[.tmp t, .cell p1 ty1, .cell p2 ty2]) (tmps : Array Value) (w : World) (g1 g2 : Nat) (t1 t2 : TypeId) (cs1 cs2 : Array Value) (d1 d2 : TypeDesc)
    (hp1 : tmps.getD p1 undef = .pointer (some ⟨g1, 0, none⟩)) (hp2 : tmps.getD p2 undef = .pointer (some ⟨g2, 0, none⟩)) (hg1 : Row w g1 cs1 t1) (hg2 : Row w g2 cs2 t2)
    (hu1 : P.underlying ty1 = some d1) (hd1 : (match d1 with | .struct _ | .array _ _ => true | _ => false) = true) (hi1 : (P.info? ty1).map (·.size) = some cs1.size)
    (hu2 : P.underlying ty2 = some d2) (hd2 : (match d2 with | .struct _ | .array _ _ => true | _ => false) = true) (hi2 : (P.info? ty2).map (·.size) = some cs2.size) :
    (results fn tmps).run P w = .ok (.tuple #[tmps.getD t undef, .agg cs1, .agg cs2]) w := by
  have hp1' : tmps[p1]?.getD undef = .pointer (some ⟨g1, 0, none⟩) := by simpa using hp1
  have hp2' : tmps[p2]?.getD undef = .pointer (some ⟨g2, 0, none⟩) := by simpa using hp2
  simp [results, h, hp1', hp2', asAddr, run_loadVar_row w g1 t1 ty1 cs1 (0, 0) d1 hg1 hu1 hd1 hi1, run_loadVar_row w g2 t2 ty2 cs2 (0, 0) d2 hg2 hu2 hd2 hi2]
theorem infoRq : (Tryd.prog.info? 25).map (·.size) = some 7 := by kernel_rfl
def put7k (W : World) (b : Nat) (v0 v1 v2 v3 v4 v5 v6 : Value) : World := ((((((W.setCell ⟨b, 0, none⟩ v0).setCell ⟨b, 1, none⟩ v1).setCell ⟨b, 2, none⟩ v2).setCell ⟨b, 3, none⟩ v3).setCell ⟨b, 4, none⟩ v4).setCell ⟨b, 5, none⟩ v5).setCell ⟨b, 6, none⟩ v6
theorem put7k_row {W : World} {b : Nat} {t : TypeId} {a0 a1 a2 a3 a4 a5 a6 : Value} (h : Row W b #[a0, a1, a2, a3, a4, a5, a6] t) (v0 v1 v2 v3 v4 v5 v6 : Value) : Row (put7k W b v0 v1 v2 v3 v4 v5 v6) b #[v0, v1, v2, v3, v4, v5, v6] t := by
  have h0 : Row _ b #[v0, a1, a2, a3, a4, a5, a6] t := h.set 0 v0
  have h1 : Row _ b #[v0, v1, a2, a3, a4, a5, a6] t := h0.set 1 v1
  have h2 : Row _ b #[v0, v1, v2, a3, a4, a5, a6] t := h1.set 2 v2
  have h3 : Row _ b #[v0, v1, v2, v3, a4, a5, a6] t := h2.set 3 v3
  have h4 : Row _ b #[v0, v1, v2, v3, v4, a5, a6] t := h3.set 4 v4
  have h5 : Row _ b #[v0, v1, v2, v3, v4, v5, a6] t := h4.set 5 v5
  have h6 : Row _ b #[v0, v1, v2, v3, v4, v5, v6] t := h5.set 6 v6
  exact h6
theorem put7k_other {W : World} {b g : Nat} {cs : Array Value} {t : TypeId} (h : Row W g cs t) (hn : g ≠ b) (v0 v1 v2 v3 v4 v5 v6 : Value) : Row (put7k W b v0 v1 v2 v3 v4 v5 v6) g cs t :=
  have k : ∀ (W' : World) (i : Nat) (v : Value), Row W' g cs t → Row (W'.setCell ⟨b, i, none⟩ v) g cs t := fun _ i _ h => h.other (a := ⟨b, i, none⟩) hn
  k _ _ _ (k _ _ _ (k _ _ _ (k _ _ _ (k _ _ _ (k _ _ _ (k _ _ _ h))))))
theorem put3k_other {W : World} {b g : Nat} {cs : Array Value} {t : TypeId} (h : Row W g cs t) (hn : g ≠ b) (v0 v1 v2 : Value) : Row (put3k W b v0 v1 v2) g cs t :=
  have k : ∀ (W' : World) (i : Nat) (v : Value), Row W' g cs t → Row (W'.setCell ⟨b, i, none⟩ v) g cs t := fun _ i _ h => h.other (a := ⟨b, i, none⟩) hn
  k _ _ _ (k _ _ _ (k _ _ _ h))
theorem put7k_below {n : Nat} {w W : World} {b : Nat} (h : Below n w W) (hb : n ≤ b) (v0 v1 v2 v3 v4 v5 v6 : Value) : Below n w (put7k W b v0 v1 v2 v3 v4 v5 v6) :=
  ((((((h.setCell (p := ⟨b, 0, none⟩) hb v0).setCell (p := ⟨b, 1, none⟩) hb v1).setCell (p := ⟨b, 2, none⟩) hb v2).setCell (p := ⟨b, 3, none⟩) hb v3).setCell (p := ⟨b, 4, none⟩) hb v4).setCell (p := ⟨b, 5, none⟩) hb v5).setCell (p := ⟨b, 6, none⟩) hb v6

end Go.Proofs.YtbnlkjoblngakaaDoor
