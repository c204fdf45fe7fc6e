/- Texts of this proof that several statements share, one behind the other. -/
import Derived.Test.YtplajlccnnbifaaGreatDoorJd
import Derived.Test.YtplajlccnnbifaaGreatDoorJc
import Derived.Test.YtplajlccnnbifaaGreatDoorJb
import Derived.Test.YtplajlccnnbifaaGreatDoorProg
/- The landed request's headOf walked. (mkrt7.py writes it.) -/
namespace Go.Proofs.YtplajlccnnbifaaGreatDoor
open Go.RowKit Go.Shelf
attribute [local go_sem] store_one S_match S_store eguard_BN nguard_BN

/-- The longest text that a search takes as it likes. -/
def MaxAt (w : World) : Prop := ∃ m, w.cell? ⟨Tryz.lays185_ren.g 1, 0, none⟩ = some (.int .i64 m)
theorem MaxAt.below {w w' : World} (h : MaxAt w) (hb : Below w.heap.size w w') : MaxAt w' := by
  obtain ⟨m, hm⟩ := h
  exact ⟨m, by rw [hb.cell (World.block_lt_of_cell? w _ hm)]; exact hm⟩
theorem split_any (s : List UInt8) (hs : s.length ≤ 100000) (w : World) (hm : MaxAt w) : Calls Tryz.prog 73 #[S s, .string ⟨#[13, 10]⟩] w fun e w' =>
    e = .returned (.slice (some ⟨w.heap.size, 0, none⟩) (lnsF [] s).length (lnsF [] s).length) ∧ w' = w.alloc (.cells ((lnsF [] s).map S).toArray 9) := by
  obtain ⟨m, hm⟩ := hm
  have h := Tryz.strings_Split ⟨s.toArray⟩ ⟨#[13, 10]⟩ m w (by have := S_size s; omega) hm (by decide)
  have e1 := Lib.splitB_data ⟨#[13, 10]⟩ 0 (Lib.countB ⟨s.toArray⟩ ⟨#[13, 10]⟩) ⟨s.toArray⟩
  have e2 : Lib.splitK [13, 10] 0 (Lib.countB ⟨s.toArray⟩ ⟨#[13, 10]⟩) s = lnsF [] s := split_lns s.length s (Nat.le_refl _)
  have e3 := Lib.splitB_all ⟨#[13, 10]⟩ (by decide) 0 _ ⟨s.toArray⟩ rfl
  have e4 : (Lib.splitB ⟨#[13, 10]⟩ 0 (Lib.countB ⟨s.toArray⟩ ⟨#[13, 10]⟩) ⟨s.toArray⟩).map (·.data.toList) = lnsF [] s := e1.trans e2
  have e5 : (Lib.splitB ⟨#[13, 10]⟩ 0 (Lib.countB ⟨s.toArray⟩ ⟨#[13, 10]⟩) ⟨s.toArray⟩).map Value.string = (lnsF [] s).map S := by
    rw [← e4, List.map_map]
    exact List.map_congr_left fun b _ => rfl
  have e6 : (lnsF [] s).length = Lib.countB ⟨s.toArray⟩ ⟨#[13, 10]⟩ + 1 := by rw [← e3, ← e4, List.length_map]
  rw [e6, ← e5]
  exact h
theorem strs_row {w : World} {b o : Nat} {L ls : List (List UInt8)} {a : Option Addr} {c : Nat} (hr : Row w b (L.map S).toArray 9) (ha : ls ≠ [] → a = some ⟨b, o, none⟩) (hc : ls.length ≤ c) (hl : ∀ i l, ls[i]? = some l → L[o + i]? = some l) : Strs w (.slice a ls.length c) ls (fun i => ⟨b, o + i, none⟩) := by
  refine ⟨fun T w' => by simp [Builtin.len_, run_underlying Tryz.underlying78, Result.andThen, goInt], fun i hi w' => ?_, fun i l hi W hW => ?_⟩
  · have hne : ls ≠ [] := by rintro rfl; simp at hi
    rw [ha hne]
    have := run_index_at (P := Tryz.prog) Tryz.underlying78 (fun w => Tryz.sizeOf9 w) b o ls.length c i hi w'
    rwa [Nat.mul_one] at this
  · have h1 : w.cell? ⟨b, o + i, none⟩ = some (S l) := by
      rw [cell_of_row w b (o + i) _ 9 (0, 0) hr, List.getElem?_toArray, List.getElem?_map, hl i l hi]; rfl
    rw [hW.cell (World.block_lt_of_cell? w _ h1)]; exact h1
theorem tail_run (W : World) (a : Option Addr) (n c : Nat) (hn : 1 ≤ n) :
    (Instr.slice 78 (.slice a n c) (some (.int .i64 1)) none none).run Tryz.prog W = .ok (.slice (if c = 1 then a else a.map (·.add 1)) (n - 1) (c - 1)) W := by
  have h2 : (1 : Int) ≤ (n : Int) := by omega
  simp [Instr.slice, run_underlying Tryz.underlying78, Instr.sliceBounds, run_sliceBound, Result.andThen, Tryz.sizeOf9, h2]
def hdCells (m p q : List UInt8) (v : Nat) (V : Value) (body : List UInt8) (cl ic : Bool) (sz : Nat) : Array Value := #[S m, S p, S q, .int .i64 (v : Int), V, S body, .bool cl, .bool ic, .int .i64 (sz : Int)]
def zeroHd : Array Value := #[.string ⟨#[]⟩, .string ⟨#[]⟩, .string ⟨#[]⟩, .int .i64 0, .slice none 0 0, .string ⟨#[]⟩, .bool false, .bool false, .int .i64 0]
theorem infoHd : (Tryz.prog.info? 54).map (·.size) = some 9 := by kernel_rfl
theorem hd_end {fn : Func} {p u : Tmp} (h : fn.results = #[.cell p 54, .tmp u]) (tmps : Array Value) (w : World) (g : Nat) (cs : Array Value) (hp : tmps.getD p undef = .pointer (some ⟨g, 0, none⟩)) (hg : Row w g cs 54) (h9 : cs.size = 9) :
    (results fn tmps).run Tryz.prog w = .ok (.tuple #[.agg cs, tmps.getD u undef]) w :=
  results_row_tmp h tmps w g 54 cs (0, 0) _ hp hg Tryz.underlying54 rfl (by rw [infoHd, h9])
def put9 (W : World) (b : Nat) (v0 v1 v2 v3 v4 v5 v6 v7 v8 : Value) : World := ((put7 W b v0 v1 v2 v3 v4 v5 v6).setCell ⟨b, 7, none⟩ v7).setCell ⟨b, 8, none⟩ v8
theorem put9_row {W : World} {b : Nat} {t : TypeId} (h : Row W b zeroHd t) (v0 v1 v2 v3 v4 v5 v6 v7 v8 : Value) : Row (put9 W b v0 v1 v2 v3 v4 v5 v6 v7 v8) b #[v0, v1, v2, v3, v4, v5, v6, v7, v8] t :=
  by
  have h7 : Row (put7 W b v0 v1 v2 v3 v4 v5 v6) b #[v0, v1, v2, v3, v4, v5, v6, .bool false, .int .i64 0] t := ((((((h.set 0 v0).set 1 v1).set 2 v2).set 3 v3).set 4 v4).set 5 v5).set 6 v6
  have h8 : Row ((put7 W b v0 v1 v2 v3 v4 v5 v6).setCell ⟨b, 7, none⟩ v7) b #[v0, v1, v2, v3, v4, v5, v6, v7, .int .i64 0] t := h7.set 7 v7
  exact h8.set 8 v8
theorem put9_below {n : Nat} {w W : World} {b : Nat} (h : Below n w W) (hb : n ≤ b) (v0 v1 v2 v3 v4 v5 v6 v7 v8 : Value) : Below n w (put9 W b v0 v1 v2 v3 v4 v5 v6 v7 v8) :=
  ((put7_below h hb v0 v1 v2 v3 v4 v5 v6).setCell (p := ⟨b, 7, none⟩) hb v7).setCell (p := ⟨b, 8, none⟩) hb v8
theorem own_put9 {W : World} {base b : Nat} {e : TypeId} {k n : Nat} {v : Value} {xs : List Value} (h : W.ownsRow base e k v n xs) (hb : b < base) (v0 v1 v2 v3 v4 v5 v6 v7 v8 : Value) : (put9 W b v0 v1 v2 v3 v4 v5 v6 v7 v8).ownsRow base e k v n xs :=
  row_own_set (row_own_set (own_put7 h hb v0 v1 v2 v3 v4 v5 v6) hb) hb
/-- What headOf tells. -/
def HeadP (w : World) (h : Hd) (e : Ending) (w' : World) : Prop := Below w.heap.size w w' ∧ match h with
  | .bad c => e = .returned (.tuple #[.agg zeroHd, .int .i64 (c : Int)])
  | .ok r len => ∃ V, e = .returned (.tuple #[.agg (hdCells r.m r.p r.q r.v V [] r.cl len.isNone (len.getD 0)), .int .i64 0]) ∧ w'.ownsRow w.heap.size 47 2 V r.fs.length (fcells r.fs)
theorem store_req {W : World} {b : Nat} (h : Row W b zeroR 27) (v0 v1 v2 v3 v4 v5 v6 : Value) (h1 : ∀ v ∈ [v0, v1, v2, v3, v4, v5, v6], v.oneCell' = true) : ∃ WS, (storeVar 27 ⟨b, 0, none⟩ (.agg #[v0, v1, v2, v3, v4, v5, v6])).run Tryz.prog W = .ok () WS ∧ Row WS b #[v0, v1, v2, v3, v4, v5, v6] 27 ∧ Keeps b W WS := by
  have hr := run_storeVar_at (P := Tryz.prog) W b 0 27 27 #[v0, v1, v2, v3, v4, v5, v6] zeroR h infoR (by simp [zeroR]) (by intro v hv; exact h1 v (by simpa using hv))
  refine ⟨_, hr, ?_, Keeps.setRow _ _⟩
  exact setRow_heap W b _ _ 27 _ h
theorem rqv_one (m p q : List UInt8) (v : Nat) (a : Option Addr) (n c : Nat) (bd : List UInt8) (cl : Bool) : ∀ x ∈ [S m, S p, S q, .int .i64 (v : Int), .slice a n c, S bd, .bool cl], x.oneCell' = true := by
  intro x hx
  simp only [List.mem_cons, List.not_mem_nil, or_false] at hx
  rcases hx with rfl | rfl | rfl | rfl | rfl | rfl | rfl <;> rfl
theorem lns_some (s : List UInt8) : ∃ l0 ls, lnsF [] s = l0 :: ls := by
  have hge := Lib.index_ge s [13, 10]
  obtain ⟨i1, i2⟩ := lns_index s []
  by_cases hm : Lib.index s [13, 10] = -1
  · exact ⟨_, _, i1 hm⟩
  · obtain ⟨j, hj⟩ : ∃ j : Nat, Lib.index s [13, 10] = j := ⟨(Lib.index s [13, 10]).toNat, by omega⟩
    exact ⟨_, _, i2 j hj⟩
theorem lns_short : ∀ (n : Nat) (s : List UInt8), s.length ≤ n → (lnsF [] s).length ≤ s.length + 1 ∧ ∀ l ∈ lnsF [] s, l.length ≤ s.length
  | n, s, hn => by
    have hge := Lib.index_ge s [13, 10]
    obtain ⟨i1, i2⟩ := lns_index s []
    by_cases hm : Lib.index s [13, 10] = -1
    · rw [i1 hm]; simp
    · obtain ⟨j, hj⟩ : ∃ j : Nat, Lib.index s [13, 10] = j := ⟨(Lib.index s [13, 10]).toNat, by omega⟩
      have hne : s ≠ [] := by rintro rfl; exact hm rfl
      have hpos : 0 < s.length := List.length_pos_iff.2 hne
      rw [i2 j hj]
      obtain ⟨m, rfl⟩ : ∃ m, n = m + 1 := ⟨n - 1, by omega⟩
      obtain ⟨h1, h2⟩ := lns_short m (s.drop (j + 2)) (by rw [List.length_drop]; omega)
      rw [List.length_drop] at h1 h2
      refine ⟨by rw [List.length_cons]; omega, fun l hl => ?_⟩
      rcases List.mem_cons.1 hl with rfl | hl
      · simp; omega
      · have := h2 l hl; omega
/-- What the landed tests say of a head. -/
structure HeadSays (s : List UInt8) (ls : List (List UInt8)) (rb : Bool) (v : Nat) (fs : List (List UInt8 × List UInt8)) (r : Rq) : Prop where
  many : 32 < ls.length → headR s = .bad 431
  no : ls.length ≤ 32 → ¬ (rb = true ∧ hostB v fs = true ∧ encB v fs = true ∧ lenB fs = true) → headR s = .bad 400
  big : ls.length ≤ 32 → rb = true → hostB v fs = true → encB v fs = true → lenB fs = true → 4096 < cntGo 0 (firstF clL fs) → headR s = .bad 413
  yes : ls.length ≤ 32 → rb = true → hostB v fs = true → encB v fs = true → lenB fs = true → cntGo 0 (firstF clL fs) ≤ 4096 → headR s = .ok r (if 0 < manyF teL fs then none else some (cntGo 0 (firstF clL fs))) ∧ (0 < manyF teL fs → cntGo 0 (firstF clL fs) = 0)
  dig : lenB fs = true → (firstF clL fs).all dgtB = true
theorem head_says {s l0 : List UInt8} {ls : List (List UInt8)} (h : lnsF [] s = l0 :: ls) : HeadSays s ls (reqB l0 ls) (reqF l0 ls).v (reqF l0 ls).fs (reqF l0 ls) := by
  obtain ⟨h1, h2, h3⟩ := head_landed l0 ls
  have e : headR s = headL (l0 :: ls) := by unfold headR; rw [h]
  have ev : (reqF l0 ls).v = (lineF l0).2.2.1 := rfl
  have ef : (reqF l0 ls).fs = ls.map pfF := rfl
  refine ⟨fun a => by rw [e]; exact h1 a, fun a b => ?_, fun a b c d f g => ?_, fun a b c d f g => ?_, fun a => ?_⟩
  · rw [e]
    refine h2 a fun ⟨c1, c2, c3, c4⟩ => b ⟨reqB_iff.2 c1, ?_, ?_, ?_⟩
    · rw [ev, ef]; exact hostB_iff.2 c2
    · rw [ev, ef]; exact encB_iff.2 c3
    · rw [ef]; exact lenB_iff.2 c4
  · rw [ev, ef] at c d
    rw [ef] at f g
    rw [e]
    exact (h3 a (reqB_iff.1 b) (hostB_iff.1 c) (encB_iff.1 d) (lenB_iff.1 f)).1 g
  · rw [ev, ef] at c d
    rw [ef] at f g ⊢
    rw [e]
    exact (h3 a (reqB_iff.1 b) (hostB_iff.1 c) (encB_iff.1 d) (lenB_iff.1 f)).2 g
  · rw [ef] at a ⊢
    rcases (lenB_iff.1 a).2 with h0 | h0
    · rw [first_none h0]; rfl
    · exact h0.2
/-- What requestOf hands back: seven cells, and what they are if all may be. -/
def ReqV (w : World) (rb : Bool) (r : Rq) (e : Ending) (w' : World) : Prop := Below w.heap.size w w' ∧ ∃ x0 x1 x2 x3 x4 x5 x6, e = .returned (.tuple #[.agg #[x0, x1, x2, x3, x4, x5, x6], .bool rb]) ∧ (∀ x ∈ [x0, x1, x2, x3, x4, x5, x6], x.oneCell' = true) ∧
  (rb = true → ∃ a c, #[x0, x1, x2, x3, x4, x5, x6] = rqCells r.m r.p r.q r.v (.slice a r.fs.length c) [] r.cl ∧ w'.ownsRow w.heap.size 47 2 (.slice a r.fs.length c) r.fs.length (fcells r.fs))
theorem reqV_of {w w' : World} {l0 : List UInt8} {ls : List (List UInt8)} {e : Ending} (h : ReqPost w l0 ls e w') : ReqV w (reqB l0 ls) (reqF l0 ls) e w' := by
  obtain ⟨hB, h⟩ := h
  refine ⟨hB, ?_⟩
  cases hb : reqB l0 ls with
  | false =>
    rw [hb, if_neg Bool.false_ne_true] at h
    exact ⟨_, _, _, _, _, _, _, h, by intro x hx; simp only [List.mem_cons, List.not_mem_nil, or_false] at hx; rcases hx with rfl | rfl | rfl | rfl | rfl | rfl | rfl <;> rfl, fun h => by cases h⟩
  | true =>
    rw [hb, if_pos rfl] at h
    obtain ⟨V, he, hO⟩ := h
    obtain ⟨gf, hf, _⟩ := flds_at hO
    obtain ⟨a, c, rfl⟩ := hf.form
    have hl : (ls.map pfF).length = (reqF l0 ls).fs.length := rfl
    exact ⟨_, _, _, _, _, _, _, he, rqv_one _ _ _ _ _ _ _ _ _, fun _ => ⟨a, c, rfl, hO⟩⟩
/-- A call, and what changes the world, that may come up next: each may be the first. -/
theorem callOrMade {P : Program} {md : Region.Mode} {ops : Array Oper} {Q : Exit → Act → World → Prop} {S : World → Prop} {fuel : Nat} {listed : Array Bool} {a : Act} {w w1 : World} {i j : Nat} {di dj : Option Tmp} {vj : Value} {f : FuncId} {args : Array Value} (hdi : (ops[i]?).map (·.dst) = some di) (hdj : (ops[j]?).map (·.dst) = some dj) (hr : Region.ready md ops listed = [i, j])
    (hxi : ∀ oi, ops[i]? = some oi → Region.wanted oi (yielded ops a.tmps) = true ∧ (execOp a.eval oi).run P w = .ok (.enter f args) w)
    (hxj : ∀ oj, ops[j]? = some oj → Region.wanted oj (yielded ops a.tmps) = true ∧ (execOp a.eval oj).run P w = .ok (.value vj) w1) (hS : S w1)
    (hc : Calls P f args w fun e w' => ∃ v, e = .returned v ∧ S w' ∧ wpAnyH P md ops Q S fuel (listed.setIfInBounds i true) (a.put di v) w')
    (hv : wpAnyH P md ops Q S fuel (listed.setIfInBounds j true) (a.put dj vj) w1) : wpAnyH P md ops Q S (fuel + 1) listed a w := by
  cases hi : ops[i]? with
  | none => simp [hi] at hdi
  | some oi =>
    cases hj : ops[j]? with
    | none => simp [hj] at hdj
    | some oj =>
      have e1 : oi.dst = di := by simpa [hi] using hdi
      have e2 : oj.dst = dj := by simpa [hj] using hdj
      subst e1 e2
      refine wpAnyH_ready hr (by simp) (AllReadyH.cons hi (fun K hK => ?_) (AllReadyH.cons hj (fun K hK => ?_) AllReadyH.nil))
      · obtain ⟨hw, hx⟩ := hxi oi hi
        rw [if_pos hw]
        unfold Oper.wp
        rw [hx]
        refine hc.mono ?_
        rintro e w' ⟨v, rfl, hS', h⟩
        exact hK.out _ _ hS' (fun _ => h)
      · obtain ⟨hw, hx⟩ := hxj oj hj
        rw [if_pos hw]
        unfold Oper.wp
        rw [hx]
        exact hK.out _ _ hS (fun _ => hv)
/-- How the variables stand. -/
structure HdK (w : World) (b2 b5 : Nat) (m p q : List UInt8) (v : Nat) (V : Value) (cl : Bool) (fs : List (List UInt8 × List UInt8)) (gf : Nat) (W : World) : Prop where
  res : Row W b2 zeroHd 54
  bel : Below w.heap.size w W
  req : Row W b5 (rqCells m p q v V [] cl) 27
  own : W.ownsRow (b2 + 1) 47 2 V fs.length (fcells fs)
  flds : FldsAt W V fs gf
theorem HdK.below {w W W' : World} {b2 b5 : Nat} {m p q : List UInt8} {v : Nat} {V : Value} {cl : Bool} {fs : List (List UInt8 × List UInt8)} {gf : Nat} (h : HdK w b2 b5 m p q v V cl fs gf W) (hb : Below W.heap.size W W') : HdK w b2 b5 m p q v V cl fs gf W' :=
  ⟨h.res.below hb h.res.lt, h.bel.trans (hb.mono h.bel.size), h.req.below hb h.req.lt, own_below h.own hb, h.flds.below hb⟩
set_option maxRecDepth 100000 in
set_option maxHeartbeats 2000000 in
theorem headof_any (s : List UInt8) (hs : s.length ≤ 100000) (w : World) (hm : MaxAt w) : Calls Tryz.prog 41 #[S s] w fun e w' => HeadP w (headR s) e w' := by
  obtain ⟨l0, ls, hls⟩ := lns_some s
  have hsay := head_says hls
  obtain ⟨hsl, hsm⟩ := lns_short s.length s (Nat.le_refl _)
  have hl0 : l0.length ≤ 100000 := by have := hsm l0 (by rw [hls]; exact List.mem_cons_self); omega
  have hlsl : ∀ l ∈ ls, l.length ≤ 100000 := fun l hl => by have := hsm l (by rw [hls]; exact List.mem_cons_of_mem _ hl); omega
  obtain ⟨b2, hb2⟩ : ∃ b, b = w.heap.size := ⟨_, rfl⟩
  obtain ⟨W2, hW2⟩ : ∃ W, W = w.alloc (.cells zeroHd 54) := ⟨_, rfl⟩
  have hB2 : Below w.heap.size w W2 := by rw [hW2]; exact (Below.refl _ w).alloc (Nat.le_refl _) _
  have hr2 : Row W2 b2 zeroHd 54 := by rw [hW2, hb2]; exact row_new _ _ _
  have hW2' : W2 = w.alloc (.cells #[.string ⟨#[]⟩, .string ⟨#[]⟩, .string ⟨#[]⟩, .int .i64 0, .slice none 0 0, .string ⟨#[]⟩, .bool false, .bool false, .int .i64 0] 54) := hW2
  have hsp := split_any s hs W2 (hm.below (hB2.mono (Nat.le_refl _)))
  rw [hls] at hsp hsl
  rw [List.length_cons] at hsl hsp
  obtain ⟨N, hN⟩ : ∃ N, N = ls.length + 1 := ⟨_, rfl⟩
  rw [← hN] at hsp
  have hN6 : N ≤ 100001 := by omega
  have H2 := Lib.hid (And.intro hr2 hB2)
  have HB2 := Lib.hid hb2
  have HSP := Lib.hid hsp
  have HN := Lib.hid (And.intro hN (And.intro hl0 hlsl))
  have HSAY := Lib.hid hsay
  obtain ⟨O, hO⟩ : ∃ O, O = headR s := ⟨_, rfl⟩
  rw [← hO]
  have HOS := Lib.hid hO
  clear hO
  have HRO : Hid (∀ W LV ad, Strs W LV ls ad → Calls Tryz.prog 74 #[S l0, LV] W fun e w' => ReqV W (reqB l0 ls) (reqF l0 ls) e w') := Lib.hid fun W LV ad h => (requestof_any l0 hl0 ls hlsl (by omega) LV ad W h).mono fun e w' hp => reqV_of hp
  have HPF : Hid (Short (reqF l0 ls).fs) := Lib.hid (pf_short hlsl (by omega))
  generalize reqB l0 ls = rb at HSAY HRO
  obtain ⟨⟨rm, rp, rq, rv, fs, rbd, rcl⟩, hrf⟩ : ∃ x, x = reqF l0 ls := ⟨_, rfl⟩
  have hbd : rbd = [] := by have := congrArg Rq.body hrf; exact this
  rw [← hrf] at HSAY HRO HPF
  subst hbd
  clear hrf
  have hbad : Hid (∀ (W : World) (c : Nat) (tmps : Array Value), Row W b2 zeroHd 54 → Below w.heap.size w W → tmps.getD 2 undef = .pointer (some ⟨b2, 0, none⟩) → tmps.getD 3 undef = .int .i64 (c : Int) → O = .bad c →
      bodyPost Tryz.prog Tryz.f41 (HeadP w O) .ret { tmps := tmps, defers := [] } (put9 W b2 (.string ⟨#[]⟩) (.string ⟨#[]⟩) (.string ⟨#[]⟩) (.int .i64 0) (.slice none 0 0) (.string ⟨#[]⟩) (.bool false) (.bool false) (.int .i64 0))) := Lib.hid fun W c tmps hr hB h4 h5 ho => by
    refine bodyPost_ret (hd_end rfl _ _ b2 _ h4 (put9_row hr _ _ _ _ _ _ _ _ _) rfl) rfl ?_
    rw [ho]
    exact ⟨put9_below hB (Nat.le_of_eq hb2.symm) _ _ _ _ _ _ _ _ _, by rw [h5]; rfl⟩
  have hgood : Hid (∀ (W : World) (base : Nat) (V : Value) (r : Rq) (len : Option Nat) (ic : Bool) (sz : Int) (tmps : Array Value), Row W b2 zeroHd 54 → Below w.heap.size w W → W.ownsRow base 47 2 V r.fs.length (fcells r.fs) → b2 < base → tmps.getD 2 undef = .pointer (some ⟨b2, 0, none⟩) → tmps.getD 3 undef = .int .i64 0 → O = .ok r len → ic = len.isNone → sz = (len.getD 0 : Nat) →
      bodyPost Tryz.prog Tryz.f41 (HeadP w O) .ret { tmps := tmps, defers := [] } (put9 W b2 (S r.m) (S r.p) (S r.q) (.int .i64 (r.v : Int)) V (.string ⟨#[]⟩) (.bool r.cl) (.bool ic) (.int .i64 sz))) := Lib.hid fun W base V r len ic sz tmps hr hB hO hb h4 h5 ho h6 h7 => by
    refine bodyPost_ret (hd_end rfl _ _ b2 _ h4 (put9_row hr _ _ _ _ _ _ _ _ _) rfl) rfl ?_
    rw [ho]
    exact ⟨put9_below hB (Nat.le_of_eq hb2.symm) _ _ _ _ _ _ _ _ _, V, by rw [h5, h6, h7]; rfl, own_weak (own_put9 hO hb _ _ _ _ _ _ _ _ _) (by omega)⟩
  clear hr2 hB2 hm hsp hls hsay hsl hsm hl0 hlsl hs hN
  go_enter Tryz.func41, Tryz.ntmps41
  go_wp2_with fail
  rw [← hW2', ← hb2]
  clear hW2' hW2 hb2
  refine HSP.out.mono ?_
  rintro e W3 ⟨rfl, hw3⟩
  obtain ⟨b3, hb3⟩ : ∃ b, b = W2.heap.size := ⟨_, rfl⟩
  rw [← hb3]
  have H3 : Hid (Row W3 b2 zeroHd 54 ∧ Below w.heap.size w W3 ∧ Row W3 b3 ((l0 :: ls).map S).toArray 9) := Lib.hid (by
    have hB : Below W2.heap.size W2 W3 := by rw [hw3]; exact (Below.refl _ W2).alloc (Nat.le_refl _) _
    exact ⟨H2.out.1.below hB H2.out.1.lt, H2.out.2.trans (hB.mono H2.out.2.size), by rw [hw3, hb3]; exact row_new _ _ _⟩)
  clear hw3 hb3 H2 HSP
  have hlen : ∀ w', (Builtin.len_ #[78] 3 #[.slice (some ⟨b3, 0, none⟩) N N]).run Tryz.prog w' = .ok (.int .i64 (N : Int)) w' := fun w' => by simp [Builtin.len_, run_underlying Tryz.underlying78, Result.andThen, goInt]
  have hw1 : IntKind.i64.wrap ((N : Int) - 1) = (N : Int) - 1 := by rw [IntKind.wrap_i64]; omega
  by_cases h32 : 32 < ls.length
  · have g1 : decide ((32 : Int) < (N : Int) - 1) = true := decide_eq_true (by have := HN.out.1; omega)
    have HO : Hid (O = .bad 431) := Lib.hid (HOS.out.trans (HSAY.out.many h32))
    clear h32
    have hr2 := H3.out.1
    have d0 : W3.cell? ⟨b2, 0, none⟩ = some (.string ⟨#[]⟩) := cell_of_row W3 _ 0 _ 54 (0, 0) hr2
    have df0 : W3.frozen? ⟨b2, 0, none⟩ = false := Row.frozen hr2 0
    have d1 : W3.cell? ⟨b2, 1, none⟩ = some (.string ⟨#[]⟩) := cell_of_row W3 _ 1 _ 54 (0, 0) hr2
    have df1 : W3.frozen? ⟨b2, 1, none⟩ = false := Row.frozen hr2 1
    have d2 : W3.cell? ⟨b2, 2, none⟩ = some (.string ⟨#[]⟩) := cell_of_row W3 _ 2 _ 54 (0, 0) hr2
    have df2 : W3.frozen? ⟨b2, 2, none⟩ = false := Row.frozen hr2 2
    have d3 : W3.cell? ⟨b2, 3, none⟩ = some (.int .i64 0) := cell_of_row W3 _ 3 _ 54 (0, 0) hr2
    have df3 : W3.frozen? ⟨b2, 3, none⟩ = false := Row.frozen hr2 3
    have d4 : W3.cell? ⟨b2, 4, none⟩ = some (.slice none 0 0) := cell_of_row W3 _ 4 _ 54 (0, 0) hr2
    have df4 : W3.frozen? ⟨b2, 4, none⟩ = false := Row.frozen hr2 4
    have d5 : W3.cell? ⟨b2, 5, none⟩ = some (.string ⟨#[]⟩) := cell_of_row W3 _ 5 _ 54 (0, 0) hr2
    have df5 : W3.frozen? ⟨b2, 5, none⟩ = false := Row.frozen hr2 5
    have d6 : W3.cell? ⟨b2, 6, none⟩ = some (.bool false) := cell_of_row W3 _ 6 _ 54 (0, 0) hr2
    have df6 : W3.frozen? ⟨b2, 6, none⟩ = false := Row.frozen hr2 6
    have d7 : W3.cell? ⟨b2, 7, none⟩ = some (.bool false) := cell_of_row W3 _ 7 _ 54 (0, 0) hr2
    have df7 : W3.frozen? ⟨b2, 7, none⟩ = false := Row.frozen hr2 7
    have d8 : W3.cell? ⟨b2, 8, none⟩ = some (.int .i64 0) := cell_of_row W3 _ 8 _ 54 (0, 0) hr2
    have df8 : W3.frozen? ⟨b2, 8, none⟩ = false := Row.frozen hr2 8
    clear hr2
    go_wp2
    exact hbad.out W3 431 _ H3.out.1 H3.out.2.1 rfl rfl HO.out
  have g1 : decide ((32 : Int) < (N : Int) - 1) = false := decide_eq_false (by have := HN.out.1; omega)
  have HL := Lib.hid (show ls.length ≤ 32 by omega)
  clear h32
  have hidx : ∀ w', (Instr.indexAt 78 (.slice (some ⟨b3, 0, none⟩) N N) (.int .i64 0)).run Tryz.prog w' = .ok (.pointer (some ⟨b3, 0, none⟩)) w' := fun w' => by
    have := run_index_at (P := Tryz.prog) Tryz.underlying78 (fun w => Tryz.sizeOf9 w) b3 0 N N 0 (by have := HN.out.1; omega) w'
    exact this
  have htl := fun w' => tail_run w' (some ⟨b3, 0, none⟩) N N (by have := HN.out.1; omega)
  obtain ⟨a1, ha1⟩ : ∃ a, a = (if N = 1 then some (⟨b3, 0, none⟩ : Addr) else (some (⟨b3, 0, none⟩ : Addr)).map (·.add 1)) := ⟨_, rfl⟩
  rw [← ha1] at htl
  obtain ⟨n1, hn1⟩ : ∃ n, n = N - 1 := ⟨_, rfl⟩
  rw [← hn1] at htl
  have HST : Hid (∀ W, Below W3.heap.size W3 W → Strs W (.slice a1 n1 n1) ls (fun i => ⟨b3, 1 + i, none⟩)) := Lib.hid fun W hW => by
    have hll : n1 = ls.length := by have := HN.out.1; omega
    have := strs_row (a := a1) (c := n1) (o := 1) (ls := ls) (H3.out.2.2.below hW H3.out.2.2.lt) (fun hne => by
      have : 0 < ls.length := List.length_pos_iff.2 hne
      rw [ha1, if_neg (by have := HN.out.1; omega)]; simp [Addr.add_lit]) (by omega) (fun i l hi => by rw [Nat.add_comm, List.getElem?_cons_succ]; exact hi)
    rwa [← hll] at this
  have HCL : Hid (∀ W, Below W3.heap.size W3 W → W.cell? ⟨b3, 0, none⟩ = some (S l0)) := Lib.hid fun W hW => cell_of_row W _ 0 _ 9 (0, 0) (H3.out.2.2.below hW H3.out.2.2.lt)
  clear ha1 hn1
  go_wp2
  obtain ⟨Wq, hWq⟩ : ∃ Wq, Wq = W3.drew := ⟨_, rfl⟩
  have hBq : Below W3.heap.size W3 Wq := by rw [hWq]; exact ⟨rfl, rfl, rfl, Nat.le_refl _, fun _ _ => rfl⟩
  have hSQ : Wq.cell? ⟨b3, 0, none⟩ = some (S l0) := HCL.out Wq hBq
  refine wp_region_noPanic ?_
  refine wp_region_held_drew (S := fun W => W.cell? ⟨b3, 0, none⟩ = some (S l0)) (by kernel_rfl) (by rw [← hWq]; exact hSQ) (fun _ => ?_)
  rw [← hWq]
  clear hWq
  refine take_at (i := 0) (d := some 20) (v := .slice (some ⟨b3, 0, none⟩) N N) rfl (by kernel_rfl) (by kernel_rfl) (by kernel_rfl) (fun _ _ _ h => h) (fun oi ho => ?_) hSQ ?_
  · obtain rfl := Option.some.inj ho
    exact Or.inl ⟨by rfl, fun wx hSw => by go_simp⟩
  simp only [Act.put, List.setIfInBounds_toArray, List.set_cons_zero, List.set_cons_succ]
  refine take_at (i := 1) (d := some 21) (v := .pointer (some ⟨b3, 0, none⟩)) rfl (by kernel_rfl) (by kernel_rfl) (by kernel_rfl) (fun _ _ _ h => h) (fun oi ho => ?_) hSQ ?_
  · obtain rfl := Option.some.inj ho
    exact Or.inl ⟨by rfl, fun wx hSw => by go_simp⟩
  simp only [Act.put, List.setIfInBounds_toArray, List.set_cons_zero, List.set_cons_succ]
  refine take_at (i := 2) (d := some 22) (v := S l0) rfl (by kernel_rfl) (by kernel_rfl) (by kernel_rfl) (fun _ _ _ h => h) (fun oi ho => ?_) hSQ ?_
  · obtain rfl := Option.some.inj ho
    exact Or.inl ⟨by rfl, fun wx hSw => by go_simp⟩
  simp only [Act.put, List.setIfInBounds_toArray, List.set_cons_zero, List.set_cons_succ]
  refine take_at (i := 3) (d := some 23) (v := .slice (some ⟨b3, 0, none⟩) N N) rfl (by kernel_rfl) (by kernel_rfl) (by kernel_rfl) (fun _ _ _ h => h) (fun oi ho => ?_) hSQ ?_
  · obtain rfl := Option.some.inj ho
    exact Or.inl ⟨by rfl, fun wx hSw => by go_simp⟩
  simp only [Act.put, List.setIfInBounds_toArray, List.set_cons_zero, List.set_cons_succ]
  refine take_at (i := 4) (d := some 24) (v := .slice a1 n1 n1) rfl (by kernel_rfl) (by kernel_rfl) (by kernel_rfl) (fun _ _ _ h => h) (fun oi ho => ?_) hSQ ?_
  · obtain rfl := Option.some.inj ho
    exact Or.inl ⟨by rfl, fun wx hSw => by go_simp⟩
  simp only [Act.put, List.setIfInBounds_toArray, List.set_cons_zero, List.set_cons_succ]
  have HQ := Lib.hid (And.intro hBq hSQ)
  clear hBq
  refine callOrMade (i := 5) (j := 9) (di := some 25) (dj := some 5) (vj := .pointer (some ⟨Wq.heap.size, 0, none⟩)) (w1 := Wq.alloc (.cells #[.string ⟨#[]⟩, .string ⟨#[]⟩, .string ⟨#[]⟩, .int .i64 0, .slice none 0 0, .string ⟨#[]⟩, .bool false] 27)) (f := 74) (args := #[S l0, .slice a1 n1 n1]) rfl rfl (by kernel_rfl) (fun oi ho => ?_) (fun oi ho => ?_) ?_ ?_ ?_
  · obtain rfl := Option.some.inj ho
    exact ⟨by rfl, by go_simp⟩
  · obtain rfl := Option.some.inj ho
    exact ⟨by rfl, by go_simp⟩
  · exact HCL.out _ (HQ.out.1.alloc HQ.out.1.size _)
  · refine (HRO.out Wq _ _ (HST.out Wq HQ.out.1)).mono ?_
    rintro e W5 ⟨hB5, x0, x1, x2, x3, x4, x5, x6, rfl, hone, hx⟩
    have hSQ5 := HCL.out W5 (HQ.out.1.trans (hB5.mono HQ.out.1.size))
    clear hSQ
    have hSQ := hSQ5
    clear hSQ5
    refine ⟨_, rfl, hSQ, ?_⟩
    simp only [Act.put, List.setIfInBounds_toArray, List.set_cons_zero, List.set_cons_succ]
    refine take_at (i := 6) (d := some 19) (v := .tuple #[.agg #[x0, x1, x2, x3, x4, x5, x6], .bool rb]) rfl (by kernel_rfl) (by kernel_rfl) (by kernel_rfl) (fun _ _ _ h => h) (fun oi ho => ?_) hSQ ?_
    · obtain rfl := Option.some.inj ho
      exact Or.inl ⟨by rfl, fun wx hSw => by go_simp⟩
    simp only [Act.put, List.setIfInBounds_toArray, List.set_cons_zero, List.set_cons_succ]
    refine take_at (i := 7) (d := some 26) (v := .agg #[x0, x1, x2, x3, x4, x5, x6]) rfl (by kernel_rfl) (by kernel_rfl) (by kernel_rfl) (fun _ _ _ h => h) (fun oi ho => ?_) hSQ ?_
    · obtain rfl := Option.some.inj ho
      exact Or.inl ⟨by rfl, fun wx hSw => by go_simp⟩
    simp only [Act.put, List.setIfInBounds_toArray, List.set_cons_zero, List.set_cons_succ]
    refine take_at (i := 8) (d := some 27) (v := .bool rb) rfl (by kernel_rfl) (by kernel_rfl) (by kernel_rfl) (fun _ _ _ h => h) (fun oi ho => ?_) hSQ ?_
    · obtain rfl := Option.some.inj ho
      exact Or.inl ⟨by rfl, fun wx hSw => by go_simp⟩
    simp only [Act.put, List.setIfInBounds_toArray, List.set_cons_zero, List.set_cons_succ]
    have hB6 : Below W5.heap.size W5 (W5.alloc (.cells #[.string ⟨#[]⟩, .string ⟨#[]⟩, .string ⟨#[]⟩, .int .i64 0, .slice none 0 0, .string ⟨#[]⟩, .bool false] 27)) := (Below.refl _ W5).alloc (Nat.le_refl _) _
    have hS6 := HCL.out (W5.alloc (.cells #[.string ⟨#[]⟩, .string ⟨#[]⟩, .string ⟨#[]⟩, .int .i64 0, .slice none 0 0, .string ⟨#[]⟩, .bool false] 27)) ((HQ.out.1.trans (hB5.mono HQ.out.1.size)).trans (hB6.mono (Nat.le_trans HQ.out.1.size hB5.size)))
    refine ready_value (i := 9) (d := some 5) (v := .pointer (some ⟨W5.heap.size, 0, none⟩)) (w' := W5.alloc (.cells #[.string ⟨#[]⟩, .string ⟨#[]⟩, .string ⟨#[]⟩, .int .i64 0, .slice none 0 0, .string ⟨#[]⟩, .bool false] 27)) rfl (by kernel_rfl) (fun oi ho => ?_) hS6 ?_
    · obtain rfl := Option.some.inj ho
      exact ⟨by rfl, by go_simp⟩
    simp only [Act.put, List.setIfInBounds_toArray, List.set_cons_zero, List.set_cons_succ]
    have hr6 : Row (W5.alloc (.cells #[.string ⟨#[]⟩, .string ⟨#[]⟩, .string ⟨#[]⟩, .int .i64 0, .slice none 0 0, .string ⟨#[]⟩, .bool false] 27)) W5.heap.size zeroR 27 := row_new _ _ _
    obtain ⟨WS, hst, hrS, hkS⟩ := store_req hr6 x0 x1 x2 x3 x4 x5 x6 hone
    have HT : Hid (Row WS b2 zeroHd 54 ∧ Below w.heap.size w WS ∧ Row WS W5.heap.size #[x0, x1, x2, x3, x4, x5, x6] 27 ∧ (rb = true → ∃ a c, #[x0, x1, x2, x3, x4, x5, x6] = rqCells rm rp rq rv (.slice a fs.length c) [] rcl ∧ WS.ownsRow (b2 + 1) 47 2 (.slice a fs.length c) fs.length (fcells fs))) := Lib.hid (by
      have hbS : Below W5.heap.size W5 WS := hB6.trans (hkS.below (by rw [alloc_size]; omega) (Nat.le_refl _))
      have hbA : Below W3.heap.size W3 W5 := HQ.out.1.trans (hB5.mono HQ.out.1.size)
      have hbB : Below W3.heap.size W3 WS := hbA.trans (hbS.mono hbA.size)
      refine ⟨H3.out.1.below hbB H3.out.1.lt, H3.out.2.1.trans (hbB.mono H3.out.2.1.size), hrS, fun hb => ?_⟩
      obtain ⟨a, c, h1, h2⟩ := hx hb
      exact ⟨a, c, h1, own_below (own_weak h2 (by have := H3.out.1.lt; have := HQ.out.1.size; omega)) hbS⟩)
    have hSS : WS.cell? ⟨b3, 0, none⟩ = some (S l0) := HCL.out WS ((HQ.out.1.trans (hB5.mono HQ.out.1.size)).trans ((hB6.trans (hkS.below (by rw [alloc_size]; omega) (Nat.le_refl _))).mono (Nat.le_trans HQ.out.1.size hB5.size)))
    generalize W5.heap.size = b5 at *
    refine ready_skip (i := 10) (d := none) (w' := WS) rfl (by kernel_rfl) (fun oi ho => ?_) hSS ?_
    · obtain rfl := Option.some.inj ho
      exact ⟨by rfl, by exact exec_store_by _ _ _ rfl _ rfl rfl hst⟩
    refine ready_value (i := 11) (d := some 6) (v := .bool rb) (w' := WS) rfl (by kernel_rfl) (fun oi ho => ?_) hSS ?_
    · obtain rfl := Option.some.inj ho
      exact ⟨by rfl, by go_simp⟩
    simp only [Act.put, List.setIfInBounds_toArray, List.set_cons_zero, List.set_cons_succ]
    refine wpAnyH_done (by kernel_rfl) ?_ _
    refine NoPanic.normal ?_
    clear hB5 hB6 hS6 hr6 hSS hSQ hx hone
    clear hst hrS hkS
    cases rb with
    | false =>
      have HO : Hid (O = .bad 400) := Lib.hid (HOS.out.trans <| HSAY.out.no HL.out (fun h => Bool.noConfusion h.1))
      have hr2 := HT.out.1
      have d0 : WS.cell? ⟨b2, 0, none⟩ = some (.string ⟨#[]⟩) := cell_of_row WS _ 0 _ 54 (0, 0) hr2
      have df0 : WS.frozen? ⟨b2, 0, none⟩ = false := Row.frozen hr2 0
      have d1 : WS.cell? ⟨b2, 1, none⟩ = some (.string ⟨#[]⟩) := cell_of_row WS _ 1 _ 54 (0, 0) hr2
      have df1 : WS.frozen? ⟨b2, 1, none⟩ = false := Row.frozen hr2 1
      have d2 : WS.cell? ⟨b2, 2, none⟩ = some (.string ⟨#[]⟩) := cell_of_row WS _ 2 _ 54 (0, 0) hr2
      have df2 : WS.frozen? ⟨b2, 2, none⟩ = false := Row.frozen hr2 2
      have d3 : WS.cell? ⟨b2, 3, none⟩ = some (.int .i64 0) := cell_of_row WS _ 3 _ 54 (0, 0) hr2
      have df3 : WS.frozen? ⟨b2, 3, none⟩ = false := Row.frozen hr2 3
      have d4 : WS.cell? ⟨b2, 4, none⟩ = some (.slice none 0 0) := cell_of_row WS _ 4 _ 54 (0, 0) hr2
      have df4 : WS.frozen? ⟨b2, 4, none⟩ = false := Row.frozen hr2 4
      have d5 : WS.cell? ⟨b2, 5, none⟩ = some (.string ⟨#[]⟩) := cell_of_row WS _ 5 _ 54 (0, 0) hr2
      have df5 : WS.frozen? ⟨b2, 5, none⟩ = false := Row.frozen hr2 5
      have d6 : WS.cell? ⟨b2, 6, none⟩ = some (.bool false) := cell_of_row WS _ 6 _ 54 (0, 0) hr2
      have df6 : WS.frozen? ⟨b2, 6, none⟩ = false := Row.frozen hr2 6
      have d7 : WS.cell? ⟨b2, 7, none⟩ = some (.bool false) := cell_of_row WS _ 7 _ 54 (0, 0) hr2
      have df7 : WS.frozen? ⟨b2, 7, none⟩ = false := Row.frozen hr2 7
      have d8 : WS.cell? ⟨b2, 8, none⟩ = some (.int .i64 0) := cell_of_row WS _ 8 _ 54 (0, 0) hr2
      have df8 : WS.frozen? ⟨b2, 8, none⟩ = false := Row.frozen hr2 8
      clear hr2
      go_wp2
      exact hbad.out WS 400 _ HT.out.1 HT.out.2.1 rfl rfl HO.out
    | true =>
      obtain ⟨fa, fc, hx, hO⟩ := HT.out.2.2.2 rfl
      try dsimp only at hx hO
      obtain ⟨gf, hfl, _⟩ := flds_at hO
      have H0 : Hid (HdK w b2 b5 rm rp rq rv (.slice fa fs.length fc) rcl fs gf WS) := Lib.hid ⟨HT.out.1, HT.out.2.1, by rw [← hx]; exact HT.out.2.2.1, hO, hfl⟩
      clear hx hO hfl HT
      have hq := H0.out.req
      have c0 : WS.cell? ⟨b5, 0, none⟩ = some (S rm) := cell_of_row WS _ 0 _ 27 (0, 0) hq
      have c1 : WS.cell? ⟨b5, 1, none⟩ = some (S rp) := cell_of_row WS _ 1 _ 27 (0, 0) hq
      have c2 : WS.cell? ⟨b5, 2, none⟩ = some (S rq) := cell_of_row WS _ 2 _ 27 (0, 0) hq
      have c3 : WS.cell? ⟨b5, 3, none⟩ = some (.int .i64 (rv : Int)) := cell_of_row WS _ 3 _ 27 (0, 0) hq
      have c4 : WS.cell? ⟨b5, 4, none⟩ = some (.slice fa fs.length fc) := cell_of_row WS _ 4 _ 27 (0, 0) hq
      have c5 : WS.cell? ⟨b5, 5, none⟩ = some (S []) := cell_of_row WS _ 5 _ 27 (0, 0) hq
      have c6 : WS.cell? ⟨b5, 6, none⟩ = some (.bool rcl) := cell_of_row WS _ 6 _ 27 (0, 0) hq
      clear hq
      go_wp2_with fail
      clear c0 c1 c2 c3 c4 c5 c6
      refine (hosts_any rm rp rq rv (.slice fa fs.length fc) [] rcl fs gf HPF.out WS H0.out.flds).mono ?_
      rintro e W6 ⟨rfl, hB⟩
      have H6 := Lib.hid (H0.out.below hB)
      clear hB H0
      cases hb1 : hostB rv fs with
      | false =>
        have HO : Hid (O = .bad 400) := Lib.hid (HOS.out.trans <| HSAY.out.no HL.out (fun h => by rw [hb1] at h; exact Bool.noConfusion h.2.1))
        clear hb1
        have hr2 := H6.out.res
        have d0 : W6.cell? ⟨b2, 0, none⟩ = some (.string ⟨#[]⟩) := cell_of_row W6 _ 0 _ 54 (0, 0) hr2
        have df0 : W6.frozen? ⟨b2, 0, none⟩ = false := Row.frozen hr2 0
        have d1 : W6.cell? ⟨b2, 1, none⟩ = some (.string ⟨#[]⟩) := cell_of_row W6 _ 1 _ 54 (0, 0) hr2
        have df1 : W6.frozen? ⟨b2, 1, none⟩ = false := Row.frozen hr2 1
        have d2 : W6.cell? ⟨b2, 2, none⟩ = some (.string ⟨#[]⟩) := cell_of_row W6 _ 2 _ 54 (0, 0) hr2
        have df2 : W6.frozen? ⟨b2, 2, none⟩ = false := Row.frozen hr2 2
        have d3 : W6.cell? ⟨b2, 3, none⟩ = some (.int .i64 0) := cell_of_row W6 _ 3 _ 54 (0, 0) hr2
        have df3 : W6.frozen? ⟨b2, 3, none⟩ = false := Row.frozen hr2 3
        have d4 : W6.cell? ⟨b2, 4, none⟩ = some (.slice none 0 0) := cell_of_row W6 _ 4 _ 54 (0, 0) hr2
        have df4 : W6.frozen? ⟨b2, 4, none⟩ = false := Row.frozen hr2 4
        have d5 : W6.cell? ⟨b2, 5, none⟩ = some (.string ⟨#[]⟩) := cell_of_row W6 _ 5 _ 54 (0, 0) hr2
        have df5 : W6.frozen? ⟨b2, 5, none⟩ = false := Row.frozen hr2 5
        have d6 : W6.cell? ⟨b2, 6, none⟩ = some (.bool false) := cell_of_row W6 _ 6 _ 54 (0, 0) hr2
        have df6 : W6.frozen? ⟨b2, 6, none⟩ = false := Row.frozen hr2 6
        have d7 : W6.cell? ⟨b2, 7, none⟩ = some (.bool false) := cell_of_row W6 _ 7 _ 54 (0, 0) hr2
        have df7 : W6.frozen? ⟨b2, 7, none⟩ = false := Row.frozen hr2 7
        have d8 : W6.cell? ⟨b2, 8, none⟩ = some (.int .i64 0) := cell_of_row W6 _ 8 _ 54 (0, 0) hr2
        have df8 : W6.frozen? ⟨b2, 8, none⟩ = false := Row.frozen hr2 8
        clear hr2
        go_wp2
        exact hbad.out W6 400 _ H6.out.res H6.out.bel rfl rfl HO.out
      | true =>
      have HB1 := Lib.hid hb1
      clear hb1
      have hq := H6.out.req
      have c0 : W6.cell? ⟨b5, 0, none⟩ = some (S rm) := cell_of_row W6 _ 0 _ 27 (0, 0) hq
      have c1 : W6.cell? ⟨b5, 1, none⟩ = some (S rp) := cell_of_row W6 _ 1 _ 27 (0, 0) hq
      have c2 : W6.cell? ⟨b5, 2, none⟩ = some (S rq) := cell_of_row W6 _ 2 _ 27 (0, 0) hq
      have c3 : W6.cell? ⟨b5, 3, none⟩ = some (.int .i64 (rv : Int)) := cell_of_row W6 _ 3 _ 27 (0, 0) hq
      have c4 : W6.cell? ⟨b5, 4, none⟩ = some (.slice fa fs.length fc) := cell_of_row W6 _ 4 _ 27 (0, 0) hq
      have c5 : W6.cell? ⟨b5, 5, none⟩ = some (S []) := cell_of_row W6 _ 5 _ 27 (0, 0) hq
      have c6 : W6.cell? ⟨b5, 6, none⟩ = some (.bool rcl) := cell_of_row W6 _ 6 _ 27 (0, 0) hq
      clear hq
      go_wp2_with fail
      clear c0 c1 c2 c3 c4 c5 c6
      refine (encoding_any rm rp rq rv (.slice fa fs.length fc) [] rcl fs gf HPF.out W6 H6.out.flds).mono ?_
      rintro e W7 ⟨rfl, hB⟩
      have H7 := Lib.hid (H6.out.below hB)
      clear hB H6
      cases hb2 : encB rv fs with
      | false =>
        have HO : Hid (O = .bad 400) := Lib.hid (HOS.out.trans <| HSAY.out.no HL.out (fun h => by rw [hb2] at h; exact Bool.noConfusion h.2.2.1))
        clear hb2
        have hr2 := H7.out.res
        have d0 : W7.cell? ⟨b2, 0, none⟩ = some (.string ⟨#[]⟩) := cell_of_row W7 _ 0 _ 54 (0, 0) hr2
        have df0 : W7.frozen? ⟨b2, 0, none⟩ = false := Row.frozen hr2 0
        have d1 : W7.cell? ⟨b2, 1, none⟩ = some (.string ⟨#[]⟩) := cell_of_row W7 _ 1 _ 54 (0, 0) hr2
        have df1 : W7.frozen? ⟨b2, 1, none⟩ = false := Row.frozen hr2 1
        have d2 : W7.cell? ⟨b2, 2, none⟩ = some (.string ⟨#[]⟩) := cell_of_row W7 _ 2 _ 54 (0, 0) hr2
        have df2 : W7.frozen? ⟨b2, 2, none⟩ = false := Row.frozen hr2 2
        have d3 : W7.cell? ⟨b2, 3, none⟩ = some (.int .i64 0) := cell_of_row W7 _ 3 _ 54 (0, 0) hr2
        have df3 : W7.frozen? ⟨b2, 3, none⟩ = false := Row.frozen hr2 3
        have d4 : W7.cell? ⟨b2, 4, none⟩ = some (.slice none 0 0) := cell_of_row W7 _ 4 _ 54 (0, 0) hr2
        have df4 : W7.frozen? ⟨b2, 4, none⟩ = false := Row.frozen hr2 4
        have d5 : W7.cell? ⟨b2, 5, none⟩ = some (.string ⟨#[]⟩) := cell_of_row W7 _ 5 _ 54 (0, 0) hr2
        have df5 : W7.frozen? ⟨b2, 5, none⟩ = false := Row.frozen hr2 5
        have d6 : W7.cell? ⟨b2, 6, none⟩ = some (.bool false) := cell_of_row W7 _ 6 _ 54 (0, 0) hr2
        have df6 : W7.frozen? ⟨b2, 6, none⟩ = false := Row.frozen hr2 6
        have d7 : W7.cell? ⟨b2, 7, none⟩ = some (.bool false) := cell_of_row W7 _ 7 _ 54 (0, 0) hr2
        have df7 : W7.frozen? ⟨b2, 7, none⟩ = false := Row.frozen hr2 7
        have d8 : W7.cell? ⟨b2, 8, none⟩ = some (.int .i64 0) := cell_of_row W7 _ 8 _ 54 (0, 0) hr2
        have df8 : W7.frozen? ⟨b2, 8, none⟩ = false := Row.frozen hr2 8
        clear hr2
        go_wp2
        exact hbad.out W7 400 _ H7.out.res H7.out.bel rfl rfl HO.out
      | true =>
      have HB2' := Lib.hid hb2
      clear hb2
      have hq := H7.out.req
      have c0 : W7.cell? ⟨b5, 0, none⟩ = some (S rm) := cell_of_row W7 _ 0 _ 27 (0, 0) hq
      have c1 : W7.cell? ⟨b5, 1, none⟩ = some (S rp) := cell_of_row W7 _ 1 _ 27 (0, 0) hq
      have c2 : W7.cell? ⟨b5, 2, none⟩ = some (S rq) := cell_of_row W7 _ 2 _ 27 (0, 0) hq
      have c3 : W7.cell? ⟨b5, 3, none⟩ = some (.int .i64 (rv : Int)) := cell_of_row W7 _ 3 _ 27 (0, 0) hq
      have c4 : W7.cell? ⟨b5, 4, none⟩ = some (.slice fa fs.length fc) := cell_of_row W7 _ 4 _ 27 (0, 0) hq
      have c5 : W7.cell? ⟨b5, 5, none⟩ = some (S []) := cell_of_row W7 _ 5 _ 27 (0, 0) hq
      have c6 : W7.cell? ⟨b5, 6, none⟩ = some (.bool rcl) := cell_of_row W7 _ 6 _ 27 (0, 0) hq
      clear hq
      go_wp2_with fail
      clear c0 c1 c2 c3 c4 c5 c6
      refine (lengths_any (.slice fa fs.length fc) fs gf HPF.out W7 H7.out.flds).mono ?_
      rintro e W8 ⟨rfl, hB⟩
      have H8 := Lib.hid (H7.out.below hB)
      clear hB H7
      cases hb3 : lenB fs with
      | false =>
        have HO : Hid (O = .bad 400) := Lib.hid (HOS.out.trans <| HSAY.out.no HL.out (fun h => by rw [hb3] at h; exact Bool.noConfusion h.2.2.2))
        clear hb3
        have hr2 := H8.out.res
        have d0 : W8.cell? ⟨b2, 0, none⟩ = some (.string ⟨#[]⟩) := cell_of_row W8 _ 0 _ 54 (0, 0) hr2
        have df0 : W8.frozen? ⟨b2, 0, none⟩ = false := Row.frozen hr2 0
        have d1 : W8.cell? ⟨b2, 1, none⟩ = some (.string ⟨#[]⟩) := cell_of_row W8 _ 1 _ 54 (0, 0) hr2
        have df1 : W8.frozen? ⟨b2, 1, none⟩ = false := Row.frozen hr2 1
        have d2 : W8.cell? ⟨b2, 2, none⟩ = some (.string ⟨#[]⟩) := cell_of_row W8 _ 2 _ 54 (0, 0) hr2
        have df2 : W8.frozen? ⟨b2, 2, none⟩ = false := Row.frozen hr2 2
        have d3 : W8.cell? ⟨b2, 3, none⟩ = some (.int .i64 0) := cell_of_row W8 _ 3 _ 54 (0, 0) hr2
        have df3 : W8.frozen? ⟨b2, 3, none⟩ = false := Row.frozen hr2 3
        have d4 : W8.cell? ⟨b2, 4, none⟩ = some (.slice none 0 0) := cell_of_row W8 _ 4 _ 54 (0, 0) hr2
        have df4 : W8.frozen? ⟨b2, 4, none⟩ = false := Row.frozen hr2 4
        have d5 : W8.cell? ⟨b2, 5, none⟩ = some (.string ⟨#[]⟩) := cell_of_row W8 _ 5 _ 54 (0, 0) hr2
        have df5 : W8.frozen? ⟨b2, 5, none⟩ = false := Row.frozen hr2 5
        have d6 : W8.cell? ⟨b2, 6, none⟩ = some (.bool false) := cell_of_row W8 _ 6 _ 54 (0, 0) hr2
        have df6 : W8.frozen? ⟨b2, 6, none⟩ = false := Row.frozen hr2 6
        have d7 : W8.cell? ⟨b2, 7, none⟩ = some (.bool false) := cell_of_row W8 _ 7 _ 54 (0, 0) hr2
        have df7 : W8.frozen? ⟨b2, 7, none⟩ = false := Row.frozen hr2 7
        have d8 : W8.cell? ⟨b2, 8, none⟩ = some (.int .i64 0) := cell_of_row W8 _ 8 _ 54 (0, 0) hr2
        have df8 : W8.frozen? ⟨b2, 8, none⟩ = false := Row.frozen hr2 8
        clear hr2
        go_wp2
        exact hbad.out W8 400 _ H8.out.res H8.out.bel rfl rfl HO.out
      | true =>
      have HB3 := Lib.hid hb3
      clear hb3
      have hgt : ∀ W, FldsAt W (.slice fa fs.length fc) fs gf → Calls Tryz.prog 78 #[.slice fa fs.length fc, S teU] W fun e w' => e = .returned (.tuple #[S (firstF teL fs), .int .i64 (manyF teL fs : Int)]) ∧ Below W.heap.size W w' := fun W h => by
        have := get_any (.slice fa fs.length fc) fs gf teU (by decide) HPF.out.few (fun f hf => (HPF.out.long f hf).1) W h
        rwa [many_low te_low, first_low te_low] at this
      have hgc : ∀ W, FldsAt W (.slice fa fs.length fc) fs gf → Calls Tryz.prog 78 #[.slice fa fs.length fc, S clU] W fun e w' => e = .returned (.tuple #[S (firstF clL fs), .int .i64 (manyF clL fs : Int)]) ∧ Below W.heap.size W w' := fun W h => by
        have := get_any (.slice fa fs.length fc) fs gf clU (by decide) HPF.out.few (fun f hf => (HPF.out.long f hf).1) W h
        rwa [many_low cl_low, first_low cl_low] at this
      have hfl : (firstF clL fs).length ≤ 100000 := by
        by_cases h0 : manyF clL fs = 0
        · rw [first_none h0]; simp
        · obtain ⟨f, hf, _, e⟩ := first_some h0
          rw [e]; exact (HPF.out.long f hf).2
      have HG := Lib.hid (And.intro hgt hgc)
      have HCT := Lib.hid fun W => count_any (firstF clL fs) hfl (HSAY.out.dig HB3.out) W
      have HY := Lib.hid (And.intro (fun h => HOS.out.trans (HSAY.out.big HL.out rfl HB1.out HB2'.out HB3.out h)) (fun h => HOS.out.symm ▸ HSAY.out.yes HL.out rfl HB1.out HB2'.out HB3.out h))
      clear hgt hgc hfl
      generalize manyF teL fs = T at *
      generalize firstF teL fs = ft at *
      generalize manyF clL fs = N2 at *
      generalize firstF clL fs = fv at *
      generalize cntGo 0 fv = M at *
      have hq := H8.out.req
      have c0 : W8.cell? ⟨b5, 0, none⟩ = some (S rm) := cell_of_row W8 _ 0 _ 27 (0, 0) hq
      have c1 : W8.cell? ⟨b5, 1, none⟩ = some (S rp) := cell_of_row W8 _ 1 _ 27 (0, 0) hq
      have c2 : W8.cell? ⟨b5, 2, none⟩ = some (S rq) := cell_of_row W8 _ 2 _ 27 (0, 0) hq
      have c3 : W8.cell? ⟨b5, 3, none⟩ = some (.int .i64 (rv : Int)) := cell_of_row W8 _ 3 _ 27 (0, 0) hq
      have c4 : W8.cell? ⟨b5, 4, none⟩ = some (.slice fa fs.length fc) := cell_of_row W8 _ 4 _ 27 (0, 0) hq
      have c5 : W8.cell? ⟨b5, 5, none⟩ = some (S []) := cell_of_row W8 _ 5 _ 27 (0, 0) hq
      have c6 : W8.cell? ⟨b5, 6, none⟩ = some (.bool rcl) := cell_of_row W8 _ 6 _ 27 (0, 0) hq
      clear hq
      go_wp2_with fail
      clear c0 c1 c2 c3 c4 c5 c6
      refine (HG.out.1 W8 H8.out.flds).mono ?_
      rintro e W9 ⟨rfl, hB⟩
      have H9 := Lib.hid (H8.out.below hB)
      clear hB H8
      have hq := H9.out.req
      have c0 : W9.cell? ⟨b5, 0, none⟩ = some (S rm) := cell_of_row W9 _ 0 _ 27 (0, 0) hq
      have c1 : W9.cell? ⟨b5, 1, none⟩ = some (S rp) := cell_of_row W9 _ 1 _ 27 (0, 0) hq
      have c2 : W9.cell? ⟨b5, 2, none⟩ = some (S rq) := cell_of_row W9 _ 2 _ 27 (0, 0) hq
      have c3 : W9.cell? ⟨b5, 3, none⟩ = some (.int .i64 (rv : Int)) := cell_of_row W9 _ 3 _ 27 (0, 0) hq
      have c4 : W9.cell? ⟨b5, 4, none⟩ = some (.slice fa fs.length fc) := cell_of_row W9 _ 4 _ 27 (0, 0) hq
      have c5 : W9.cell? ⟨b5, 5, none⟩ = some (S []) := cell_of_row W9 _ 5 _ 27 (0, 0) hq
      have c6 : W9.cell? ⟨b5, 6, none⟩ = some (.bool rcl) := cell_of_row W9 _ 6 _ 27 (0, 0) hq
      clear hq
      go_wp2_with fail
      clear c0 c1 c2 c3 c4 c5 c6
      refine (HG.out.2 W9 H9.out.flds).mono ?_
      rintro e W10 ⟨rfl, hB⟩
      have H10 := Lib.hid (H9.out.below hB)
      clear hB H9
      go_wp2_with fail
      refine (HCT.out W10).mono ?_
      rintro e W11 ⟨rfl, hw11⟩
      rw [hw11]
      clear hw11 HG HCT
      by_cases h4 : 4096 < M
      · have g4 : decide ((4096 : Int) < (M : Int)) = true := decide_eq_true (by omega)
        have HO : Hid (O = .bad 413) := Lib.hid (HY.out.1 h4)
        clear h4
        have hr2 := H10.out.res
        have d0 : W10.cell? ⟨b2, 0, none⟩ = some (.string ⟨#[]⟩) := cell_of_row W10 _ 0 _ 54 (0, 0) hr2
        have df0 : W10.frozen? ⟨b2, 0, none⟩ = false := Row.frozen hr2 0
        have d1 : W10.cell? ⟨b2, 1, none⟩ = some (.string ⟨#[]⟩) := cell_of_row W10 _ 1 _ 54 (0, 0) hr2
        have df1 : W10.frozen? ⟨b2, 1, none⟩ = false := Row.frozen hr2 1
        have d2 : W10.cell? ⟨b2, 2, none⟩ = some (.string ⟨#[]⟩) := cell_of_row W10 _ 2 _ 54 (0, 0) hr2
        have df2 : W10.frozen? ⟨b2, 2, none⟩ = false := Row.frozen hr2 2
        have d3 : W10.cell? ⟨b2, 3, none⟩ = some (.int .i64 0) := cell_of_row W10 _ 3 _ 54 (0, 0) hr2
        have df3 : W10.frozen? ⟨b2, 3, none⟩ = false := Row.frozen hr2 3
        have d4 : W10.cell? ⟨b2, 4, none⟩ = some (.slice none 0 0) := cell_of_row W10 _ 4 _ 54 (0, 0) hr2
        have df4 : W10.frozen? ⟨b2, 4, none⟩ = false := Row.frozen hr2 4
        have d5 : W10.cell? ⟨b2, 5, none⟩ = some (.string ⟨#[]⟩) := cell_of_row W10 _ 5 _ 54 (0, 0) hr2
        have df5 : W10.frozen? ⟨b2, 5, none⟩ = false := Row.frozen hr2 5
        have d6 : W10.cell? ⟨b2, 6, none⟩ = some (.bool false) := cell_of_row W10 _ 6 _ 54 (0, 0) hr2
        have df6 : W10.frozen? ⟨b2, 6, none⟩ = false := Row.frozen hr2 6
        have d7 : W10.cell? ⟨b2, 7, none⟩ = some (.bool false) := cell_of_row W10 _ 7 _ 54 (0, 0) hr2
        have df7 : W10.frozen? ⟨b2, 7, none⟩ = false := Row.frozen hr2 7
        have d8 : W10.cell? ⟨b2, 8, none⟩ = some (.int .i64 0) := cell_of_row W10 _ 8 _ 54 (0, 0) hr2
        have df8 : W10.frozen? ⟨b2, 8, none⟩ = false := Row.frozen hr2 8
        clear hr2
        go_wp2
        exact hbad.out W10 413 _ H10.out.res H10.out.bel rfl rfl HO.out
      have g4 : decide ((4096 : Int) < (M : Int)) = false := decide_eq_false (by omega)
      have HO := Lib.hid (HY.out.2 (by omega))
      clear h4
      have hq := H10.out.req
      have c0 : W10.cell? ⟨b5, 0, none⟩ = some (S rm) := cell_of_row W10 _ 0 _ 27 (0, 0) hq
      have c1 : W10.cell? ⟨b5, 1, none⟩ = some (S rp) := cell_of_row W10 _ 1 _ 27 (0, 0) hq
      have c2 : W10.cell? ⟨b5, 2, none⟩ = some (S rq) := cell_of_row W10 _ 2 _ 27 (0, 0) hq
      have c3 : W10.cell? ⟨b5, 3, none⟩ = some (.int .i64 (rv : Int)) := cell_of_row W10 _ 3 _ 27 (0, 0) hq
      have c4 : W10.cell? ⟨b5, 4, none⟩ = some (.slice fa fs.length fc) := cell_of_row W10 _ 4 _ 27 (0, 0) hq
      have c5 : W10.cell? ⟨b5, 5, none⟩ = some (S []) := cell_of_row W10 _ 5 _ 27 (0, 0) hq
      have c6 : W10.cell? ⟨b5, 6, none⟩ = some (.bool rcl) := cell_of_row W10 _ 6 _ 27 (0, 0) hq
      have hr2 := H10.out.res
      have d0 : W10.cell? ⟨b2, 0, none⟩ = some (.string ⟨#[]⟩) := cell_of_row W10 _ 0 _ 54 (0, 0) hr2
      have df0 : W10.frozen? ⟨b2, 0, none⟩ = false := Row.frozen hr2 0
      have d1 : W10.cell? ⟨b2, 1, none⟩ = some (.string ⟨#[]⟩) := cell_of_row W10 _ 1 _ 54 (0, 0) hr2
      have df1 : W10.frozen? ⟨b2, 1, none⟩ = false := Row.frozen hr2 1
      have d2 : W10.cell? ⟨b2, 2, none⟩ = some (.string ⟨#[]⟩) := cell_of_row W10 _ 2 _ 54 (0, 0) hr2
      have df2 : W10.frozen? ⟨b2, 2, none⟩ = false := Row.frozen hr2 2
      have d3 : W10.cell? ⟨b2, 3, none⟩ = some (.int .i64 0) := cell_of_row W10 _ 3 _ 54 (0, 0) hr2
      have df3 : W10.frozen? ⟨b2, 3, none⟩ = false := Row.frozen hr2 3
      have d4 : W10.cell? ⟨b2, 4, none⟩ = some (.slice none 0 0) := cell_of_row W10 _ 4 _ 54 (0, 0) hr2
      have df4 : W10.frozen? ⟨b2, 4, none⟩ = false := Row.frozen hr2 4
      have d5 : W10.cell? ⟨b2, 5, none⟩ = some (.string ⟨#[]⟩) := cell_of_row W10 _ 5 _ 54 (0, 0) hr2
      have df5 : W10.frozen? ⟨b2, 5, none⟩ = false := Row.frozen hr2 5
      have d6 : W10.cell? ⟨b2, 6, none⟩ = some (.bool false) := cell_of_row W10 _ 6 _ 54 (0, 0) hr2
      have df6 : W10.frozen? ⟨b2, 6, none⟩ = false := Row.frozen hr2 6
      have d7 : W10.cell? ⟨b2, 7, none⟩ = some (.bool false) := cell_of_row W10 _ 7 _ 54 (0, 0) hr2
      have df7 : W10.frozen? ⟨b2, 7, none⟩ = false := Row.frozen hr2 7
      have d8 : W10.cell? ⟨b2, 8, none⟩ = some (.int .i64 0) := cell_of_row W10 _ 8 _ 54 (0, 0) hr2
      have df8 : W10.frozen? ⟨b2, 8, none⟩ = false := Row.frozen hr2 8
      clear hq hr2
      by_cases hT : 0 < T
      · have g5 : decide ((0 : Int) < (T : Int)) = true := decide_eq_true (by omega)
        have g5' : decide (0 < T) = true := decide_eq_true hT
        have HO2 : Hid (O = .ok ⟨rm, rp, rq, rv, fs, [], rcl⟩ none ∧ M = 0) := Lib.hid (by have := HO.out; rw [if_pos hT] at this; exact ⟨this.1, this.2 hT⟩)
        clear hT
        go_wp2
        exact hgood.out W10 (b2 + 1) (.slice fa fs.length fc) ⟨rm, rp, rq, rv, fs, [], rcl⟩ none true (M : Int) _ H10.out.res H10.out.bel H10.out.own (Nat.lt_succ_self _) rfl rfl HO2.out.1 rfl (by rw [HO2.out.2]; rfl)
      · have g5 : decide ((0 : Int) < (T : Int)) = false := decide_eq_false (by omega)
        have g5' : decide (0 < T) = false := decide_eq_false hT
        have HO2 : Hid (O = .ok ⟨rm, rp, rq, rv, fs, [], rcl⟩ (some M)) := Lib.hid (by have := HO.out; rw [if_neg hT] at this; exact this.1)
        clear hT
        go_wp2
        exact hgood.out W10 (b2 + 1) (.slice fa fs.length fc) ⟨rm, rp, rq, rv, fs, [], rcl⟩ (some M) false (M : Int) _ H10.out.res H10.out.bel H10.out.own (Nat.lt_succ_self _) rfl rfl HO2.out rfl rfl
  · simp only [Act.put, List.setIfInBounds_toArray, List.set_cons_zero, List.set_cons_succ]
    have hr5 : Row (Wq.alloc (.cells #[.string ⟨#[]⟩, .string ⟨#[]⟩, .string ⟨#[]⟩, .int .i64 0, .slice none 0 0, .string ⟨#[]⟩, .bool false] 27)) Wq.heap.size zeroR 27 := row_new _ _ _
    have hB5 : Below Wq.heap.size Wq (Wq.alloc (.cells #[.string ⟨#[]⟩, .string ⟨#[]⟩, .string ⟨#[]⟩, .int .i64 0, .slice none 0 0, .string ⟨#[]⟩, .bool false] 27)) := (Below.refl _ Wq).alloc (Nat.le_refl _) _
    refine ready_call (i := 5) (d := some 25) (f := 74) (args := #[S l0, .slice a1 n1 n1]) rfl (by kernel_rfl) (fun oi ho => ?_) ?_
    · obtain rfl := Option.some.inj ho
      exact ⟨by rfl, by go_simp⟩
    have hbA : Below W3.heap.size W3 (Wq.alloc (.cells #[.string ⟨#[]⟩, .string ⟨#[]⟩, .string ⟨#[]⟩, .int .i64 0, .slice none 0 0, .string ⟨#[]⟩, .bool false] 27)) := HQ.out.1.trans (hB5.mono HQ.out.1.size)
    refine (HRO.out _ _ _ (HST.out _ hbA)).mono ?_
    rintro e W6 ⟨hB6, x0, x1, x2, x3, x4, x5, x6, rfl, hone, hx⟩
    have hbB : Below W3.heap.size W3 W6 := hbA.trans (hB6.mono hbA.size)
    have hSQ6 := HCL.out W6 hbB
    clear hSQ
    have hSQ := hSQ6
    clear hSQ6
    refine ⟨_, rfl, hSQ, ?_⟩
    simp only [Act.put, List.setIfInBounds_toArray, List.set_cons_zero, List.set_cons_succ]
    refine take_at (i := 6) (d := some 19) (v := .tuple #[.agg #[x0, x1, x2, x3, x4, x5, x6], .bool rb]) rfl (by kernel_rfl) (by kernel_rfl) (by kernel_rfl) (fun _ _ _ h => h) (fun oi ho => ?_) hSQ ?_
    · obtain rfl := Option.some.inj ho
      exact Or.inl ⟨by rfl, fun wx hSw => by go_simp⟩
    simp only [Act.put, List.setIfInBounds_toArray, List.set_cons_zero, List.set_cons_succ]
    refine take_at (i := 7) (d := some 26) (v := .agg #[x0, x1, x2, x3, x4, x5, x6]) rfl (by kernel_rfl) (by kernel_rfl) (by kernel_rfl) (fun _ _ _ h => h) (fun oi ho => ?_) hSQ ?_
    · obtain rfl := Option.some.inj ho
      exact Or.inl ⟨by rfl, fun wx hSw => by go_simp⟩
    simp only [Act.put, List.setIfInBounds_toArray, List.set_cons_zero, List.set_cons_succ]
    refine take_at (i := 8) (d := some 27) (v := .bool rb) rfl (by kernel_rfl) (by kernel_rfl) (by kernel_rfl) (fun _ _ _ h => h) (fun oi ho => ?_) hSQ ?_
    · obtain rfl := Option.some.inj ho
      exact Or.inl ⟨by rfl, fun wx hSw => by go_simp⟩
    simp only [Act.put, List.setIfInBounds_toArray, List.set_cons_zero, List.set_cons_succ]
    have hr6 := hr5.below hB6 hr5.lt
    obtain ⟨WS, hst, hrS, hkS⟩ := store_req hr6 x0 x1 x2 x3 x4 x5 x6 hone
    have HT : Hid (Row WS b2 zeroHd 54 ∧ Below w.heap.size w WS ∧ Row WS Wq.heap.size #[x0, x1, x2, x3, x4, x5, x6] 27 ∧ (rb = true → ∃ a c, #[x0, x1, x2, x3, x4, x5, x6] = rqCells rm rp rq rv (.slice a fs.length c) [] rcl ∧ WS.ownsRow (b2 + 1) 47 2 (.slice a fs.length c) fs.length (fcells fs))) := Lib.hid (by
      have hbC : Below W3.heap.size W3 WS := hbB.trans (hkS.below hbB.size HQ.out.1.size)
      refine ⟨H3.out.1.below hbC H3.out.1.lt, H3.out.2.1.trans (hbC.mono H3.out.2.1.size), hrS, fun hb => ?_⟩
      obtain ⟨a, c, h1, h2⟩ := hx hb
      refine ⟨a, c, h1, ?_⟩
      have h3 : W6.ownsRow (Wq.heap.size + 1) 47 2 (.slice a fs.length c) fs.length (fcells fs) := own_weak h2 (by rw [alloc_size]; exact Nat.le_refl _)
      have h4 : WS.ownsRow (Wq.heap.size + 1) 47 2 (.slice a fs.length c) fs.length (fcells fs) := own_same h3 (fun j hj => hkS.block j (h3.lt j hj).2 (by have := (h3.lt j hj).1; omega))
      exact own_weak h4 (by have := H3.out.1.lt; have := HQ.out.1.size; omega))
    have hSS : WS.cell? ⟨b3, 0, none⟩ = some (S l0) := HCL.out WS (hbB.trans (hkS.below hbB.size HQ.out.1.size))
    generalize Wq.heap.size = b5 at *
    refine ready_skip (i := 10) (d := none) (w' := WS) rfl (by kernel_rfl) (fun oi ho => ?_) hSS ?_
    · obtain rfl := Option.some.inj ho
      exact ⟨by rfl, by exact exec_store_by _ _ _ rfl _ rfl rfl hst⟩
    refine ready_value (i := 11) (d := some 6) (v := .bool rb) (w' := WS) rfl (by kernel_rfl) (fun oi ho => ?_) hSS ?_
    · obtain rfl := Option.some.inj ho
      exact ⟨by rfl, by go_simp⟩
    simp only [Act.put, List.setIfInBounds_toArray, List.set_cons_zero, List.set_cons_succ]
    refine wpAnyH_done (by kernel_rfl) ?_ _
    refine NoPanic.normal ?_
    clear hB5 hB6 hr5 hr6 hSS hSQ hx hone hbA hbB
    clear hst hrS hkS
    cases rb with
    | false =>
      have HO : Hid (O = .bad 400) := Lib.hid (HOS.out.trans <| HSAY.out.no HL.out (fun h => Bool.noConfusion h.1))
      have hr2 := HT.out.1
      have d0 : WS.cell? ⟨b2, 0, none⟩ = some (.string ⟨#[]⟩) := cell_of_row WS _ 0 _ 54 (0, 0) hr2
      have df0 : WS.frozen? ⟨b2, 0, none⟩ = false := Row.frozen hr2 0
      have d1 : WS.cell? ⟨b2, 1, none⟩ = some (.string ⟨#[]⟩) := cell_of_row WS _ 1 _ 54 (0, 0) hr2
      have df1 : WS.frozen? ⟨b2, 1, none⟩ = false := Row.frozen hr2 1
      have d2 : WS.cell? ⟨b2, 2, none⟩ = some (.string ⟨#[]⟩) := cell_of_row WS _ 2 _ 54 (0, 0) hr2
      have df2 : WS.frozen? ⟨b2, 2, none⟩ = false := Row.frozen hr2 2
      have d3 : WS.cell? ⟨b2, 3, none⟩ = some (.int .i64 0) := cell_of_row WS _ 3 _ 54 (0, 0) hr2
      have df3 : WS.frozen? ⟨b2, 3, none⟩ = false := Row.frozen hr2 3
      have d4 : WS.cell? ⟨b2, 4, none⟩ = some (.slice none 0 0) := cell_of_row WS _ 4 _ 54 (0, 0) hr2
      have df4 : WS.frozen? ⟨b2, 4, none⟩ = false := Row.frozen hr2 4
      have d5 : WS.cell? ⟨b2, 5, none⟩ = some (.string ⟨#[]⟩) := cell_of_row WS _ 5 _ 54 (0, 0) hr2
      have df5 : WS.frozen? ⟨b2, 5, none⟩ = false := Row.frozen hr2 5
      have d6 : WS.cell? ⟨b2, 6, none⟩ = some (.bool false) := cell_of_row WS _ 6 _ 54 (0, 0) hr2
      have df6 : WS.frozen? ⟨b2, 6, none⟩ = false := Row.frozen hr2 6
      have d7 : WS.cell? ⟨b2, 7, none⟩ = some (.bool false) := cell_of_row WS _ 7 _ 54 (0, 0) hr2
      have df7 : WS.frozen? ⟨b2, 7, none⟩ = false := Row.frozen hr2 7
      have d8 : WS.cell? ⟨b2, 8, none⟩ = some (.int .i64 0) := cell_of_row WS _ 8 _ 54 (0, 0) hr2
      have df8 : WS.frozen? ⟨b2, 8, none⟩ = false := Row.frozen hr2 8
      clear hr2
      go_wp2
      exact hbad.out WS 400 _ HT.out.1 HT.out.2.1 rfl rfl HO.out
    | true =>
      obtain ⟨fa, fc, hx, hO⟩ := HT.out.2.2.2 rfl
      try dsimp only at hx hO
      obtain ⟨gf, hfl, _⟩ := flds_at hO
      have H0 : Hid (HdK w b2 b5 rm rp rq rv (.slice fa fs.length fc) rcl fs gf WS) := Lib.hid ⟨HT.out.1, HT.out.2.1, by rw [← hx]; exact HT.out.2.2.1, hO, hfl⟩
      clear hx hO hfl HT
      have hq := H0.out.req
      have c0 : WS.cell? ⟨b5, 0, none⟩ = some (S rm) := cell_of_row WS _ 0 _ 27 (0, 0) hq
      have c1 : WS.cell? ⟨b5, 1, none⟩ = some (S rp) := cell_of_row WS _ 1 _ 27 (0, 0) hq
      have c2 : WS.cell? ⟨b5, 2, none⟩ = some (S rq) := cell_of_row WS _ 2 _ 27 (0, 0) hq
      have c3 : WS.cell? ⟨b5, 3, none⟩ = some (.int .i64 (rv : Int)) := cell_of_row WS _ 3 _ 27 (0, 0) hq
      have c4 : WS.cell? ⟨b5, 4, none⟩ = some (.slice fa fs.length fc) := cell_of_row WS _ 4 _ 27 (0, 0) hq
      have c5 : WS.cell? ⟨b5, 5, none⟩ = some (S []) := cell_of_row WS _ 5 _ 27 (0, 0) hq
      have c6 : WS.cell? ⟨b5, 6, none⟩ = some (.bool rcl) := cell_of_row WS _ 6 _ 27 (0, 0) hq
      clear hq
      go_wp2_with fail
      clear c0 c1 c2 c3 c4 c5 c6
      refine (hosts_any rm rp rq rv (.slice fa fs.length fc) [] rcl fs gf HPF.out WS H0.out.flds).mono ?_
      rintro e W6 ⟨rfl, hB⟩
      have H6 := Lib.hid (H0.out.below hB)
      clear hB H0
      cases hb1 : hostB rv fs with
      | false =>
        have HO : Hid (O = .bad 400) := Lib.hid (HOS.out.trans <| HSAY.out.no HL.out (fun h => by rw [hb1] at h; exact Bool.noConfusion h.2.1))
        clear hb1
        have hr2 := H6.out.res
        have d0 : W6.cell? ⟨b2, 0, none⟩ = some (.string ⟨#[]⟩) := cell_of_row W6 _ 0 _ 54 (0, 0) hr2
        have df0 : W6.frozen? ⟨b2, 0, none⟩ = false := Row.frozen hr2 0
        have d1 : W6.cell? ⟨b2, 1, none⟩ = some (.string ⟨#[]⟩) := cell_of_row W6 _ 1 _ 54 (0, 0) hr2
        have df1 : W6.frozen? ⟨b2, 1, none⟩ = false := Row.frozen hr2 1
        have d2 : W6.cell? ⟨b2, 2, none⟩ = some (.string ⟨#[]⟩) := cell_of_row W6 _ 2 _ 54 (0, 0) hr2
        have df2 : W6.frozen? ⟨b2, 2, none⟩ = false := Row.frozen hr2 2
        have d3 : W6.cell? ⟨b2, 3, none⟩ = some (.int .i64 0) := cell_of_row W6 _ 3 _ 54 (0, 0) hr2
        have df3 : W6.frozen? ⟨b2, 3, none⟩ = false := Row.frozen hr2 3
        have d4 : W6.cell? ⟨b2, 4, none⟩ = some (.slice none 0 0) := cell_of_row W6 _ 4 _ 54 (0, 0) hr2
        have df4 : W6.frozen? ⟨b2, 4, none⟩ = false := Row.frozen hr2 4
        have d5 : W6.cell? ⟨b2, 5, none⟩ = some (.string ⟨#[]⟩) := cell_of_row W6 _ 5 _ 54 (0, 0) hr2
        have df5 : W6.frozen? ⟨b2, 5, none⟩ = false := Row.frozen hr2 5
        have d6 : W6.cell? ⟨b2, 6, none⟩ = some (.bool false) := cell_of_row W6 _ 6 _ 54 (0, 0) hr2
        have df6 : W6.frozen? ⟨b2, 6, none⟩ = false := Row.frozen hr2 6
        have d7 : W6.cell? ⟨b2, 7, none⟩ = some (.bool false) := cell_of_row W6 _ 7 _ 54 (0, 0) hr2
        have df7 : W6.frozen? ⟨b2, 7, none⟩ = false := Row.frozen hr2 7
        have d8 : W6.cell? ⟨b2, 8, none⟩ = some (.int .i64 0) := cell_of_row W6 _ 8 _ 54 (0, 0) hr2
        have df8 : W6.frozen? ⟨b2, 8, none⟩ = false := Row.frozen hr2 8
        clear hr2
        go_wp2
        exact hbad.out W6 400 _ H6.out.res H6.out.bel rfl rfl HO.out
      | true =>
      have HB1 := Lib.hid hb1
      clear hb1
      have hq := H6.out.req
      have c0 : W6.cell? ⟨b5, 0, none⟩ = some (S rm) := cell_of_row W6 _ 0 _ 27 (0, 0) hq
      have c1 : W6.cell? ⟨b5, 1, none⟩ = some (S rp) := cell_of_row W6 _ 1 _ 27 (0, 0) hq
      have c2 : W6.cell? ⟨b5, 2, none⟩ = some (S rq) := cell_of_row W6 _ 2 _ 27 (0, 0) hq
      have c3 : W6.cell? ⟨b5, 3, none⟩ = some (.int .i64 (rv : Int)) := cell_of_row W6 _ 3 _ 27 (0, 0) hq
      have c4 : W6.cell? ⟨b5, 4, none⟩ = some (.slice fa fs.length fc) := cell_of_row W6 _ 4 _ 27 (0, 0) hq
      have c5 : W6.cell? ⟨b5, 5, none⟩ = some (S []) := cell_of_row W6 _ 5 _ 27 (0, 0) hq
      have c6 : W6.cell? ⟨b5, 6, none⟩ = some (.bool rcl) := cell_of_row W6 _ 6 _ 27 (0, 0) hq
      clear hq
      go_wp2_with fail
      clear c0 c1 c2 c3 c4 c5 c6
      refine (encoding_any rm rp rq rv (.slice fa fs.length fc) [] rcl fs gf HPF.out W6 H6.out.flds).mono ?_
      rintro e W7 ⟨rfl, hB⟩
      have H7 := Lib.hid (H6.out.below hB)
      clear hB H6
      cases hb2 : encB rv fs with
      | false =>
        have HO : Hid (O = .bad 400) := Lib.hid (HOS.out.trans <| HSAY.out.no HL.out (fun h => by rw [hb2] at h; exact Bool.noConfusion h.2.2.1))
        clear hb2
        have hr2 := H7.out.res
        have d0 : W7.cell? ⟨b2, 0, none⟩ = some (.string ⟨#[]⟩) := cell_of_row W7 _ 0 _ 54 (0, 0) hr2
        have df0 : W7.frozen? ⟨b2, 0, none⟩ = false := Row.frozen hr2 0
        have d1 : W7.cell? ⟨b2, 1, none⟩ = some (.string ⟨#[]⟩) := cell_of_row W7 _ 1 _ 54 (0, 0) hr2
        have df1 : W7.frozen? ⟨b2, 1, none⟩ = false := Row.frozen hr2 1
        have d2 : W7.cell? ⟨b2, 2, none⟩ = some (.string ⟨#[]⟩) := cell_of_row W7 _ 2 _ 54 (0, 0) hr2
        have df2 : W7.frozen? ⟨b2, 2, none⟩ = false := Row.frozen hr2 2
        have d3 : W7.cell? ⟨b2, 3, none⟩ = some (.int .i64 0) := cell_of_row W7 _ 3 _ 54 (0, 0) hr2
        have df3 : W7.frozen? ⟨b2, 3, none⟩ = false := Row.frozen hr2 3
        have d4 : W7.cell? ⟨b2, 4, none⟩ = some (.slice none 0 0) := cell_of_row W7 _ 4 _ 54 (0, 0) hr2
        have df4 : W7.frozen? ⟨b2, 4, none⟩ = false := Row.frozen hr2 4
        have d5 : W7.cell? ⟨b2, 5, none⟩ = some (.string ⟨#[]⟩) := cell_of_row W7 _ 5 _ 54 (0, 0) hr2
        have df5 : W7.frozen? ⟨b2, 5, none⟩ = false := Row.frozen hr2 5
        have d6 : W7.cell? ⟨b2, 6, none⟩ = some (.bool false) := cell_of_row W7 _ 6 _ 54 (0, 0) hr2
        have df6 : W7.frozen? ⟨b2, 6, none⟩ = false := Row.frozen hr2 6
        have d7 : W7.cell? ⟨b2, 7, none⟩ = some (.bool false) := cell_of_row W7 _ 7 _ 54 (0, 0) hr2
        have df7 : W7.frozen? ⟨b2, 7, none⟩ = false := Row.frozen hr2 7
        have d8 : W7.cell? ⟨b2, 8, none⟩ = some (.int .i64 0) := cell_of_row W7 _ 8 _ 54 (0, 0) hr2
        have df8 : W7.frozen? ⟨b2, 8, none⟩ = false := Row.frozen hr2 8
        clear hr2
        go_wp2
        exact hbad.out W7 400 _ H7.out.res H7.out.bel rfl rfl HO.out
      | true =>
      have HB2' := Lib.hid hb2
      clear hb2
      have hq := H7.out.req
      have c0 : W7.cell? ⟨b5, 0, none⟩ = some (S rm) := cell_of_row W7 _ 0 _ 27 (0, 0) hq
      have c1 : W7.cell? ⟨b5, 1, none⟩ = some (S rp) := cell_of_row W7 _ 1 _ 27 (0, 0) hq
      have c2 : W7.cell? ⟨b5, 2, none⟩ = some (S rq) := cell_of_row W7 _ 2 _ 27 (0, 0) hq
      have c3 : W7.cell? ⟨b5, 3, none⟩ = some (.int .i64 (rv : Int)) := cell_of_row W7 _ 3 _ 27 (0, 0) hq
      have c4 : W7.cell? ⟨b5, 4, none⟩ = some (.slice fa fs.length fc) := cell_of_row W7 _ 4 _ 27 (0, 0) hq
      have c5 : W7.cell? ⟨b5, 5, none⟩ = some (S []) := cell_of_row W7 _ 5 _ 27 (0, 0) hq
      have c6 : W7.cell? ⟨b5, 6, none⟩ = some (.bool rcl) := cell_of_row W7 _ 6 _ 27 (0, 0) hq
      clear hq
      go_wp2_with fail
      clear c0 c1 c2 c3 c4 c5 c6
      refine (lengths_any (.slice fa fs.length fc) fs gf HPF.out W7 H7.out.flds).mono ?_
      rintro e W8 ⟨rfl, hB⟩
      have H8 := Lib.hid (H7.out.below hB)
      clear hB H7
      cases hb3 : lenB fs with
      | false =>
        have HO : Hid (O = .bad 400) := Lib.hid (HOS.out.trans <| HSAY.out.no HL.out (fun h => by rw [hb3] at h; exact Bool.noConfusion h.2.2.2))
        clear hb3
        have hr2 := H8.out.res
        have d0 : W8.cell? ⟨b2, 0, none⟩ = some (.string ⟨#[]⟩) := cell_of_row W8 _ 0 _ 54 (0, 0) hr2
        have df0 : W8.frozen? ⟨b2, 0, none⟩ = false := Row.frozen hr2 0
        have d1 : W8.cell? ⟨b2, 1, none⟩ = some (.string ⟨#[]⟩) := cell_of_row W8 _ 1 _ 54 (0, 0) hr2
        have df1 : W8.frozen? ⟨b2, 1, none⟩ = false := Row.frozen hr2 1
        have d2 : W8.cell? ⟨b2, 2, none⟩ = some (.string ⟨#[]⟩) := cell_of_row W8 _ 2 _ 54 (0, 0) hr2
        have df2 : W8.frozen? ⟨b2, 2, none⟩ = false := Row.frozen hr2 2
        have d3 : W8.cell? ⟨b2, 3, none⟩ = some (.int .i64 0) := cell_of_row W8 _ 3 _ 54 (0, 0) hr2
        have df3 : W8.frozen? ⟨b2, 3, none⟩ = false := Row.frozen hr2 3
        have d4 : W8.cell? ⟨b2, 4, none⟩ = some (.slice none 0 0) := cell_of_row W8 _ 4 _ 54 (0, 0) hr2
        have df4 : W8.frozen? ⟨b2, 4, none⟩ = false := Row.frozen hr2 4
        have d5 : W8.cell? ⟨b2, 5, none⟩ = some (.string ⟨#[]⟩) := cell_of_row W8 _ 5 _ 54 (0, 0) hr2
        have df5 : W8.frozen? ⟨b2, 5, none⟩ = false := Row.frozen hr2 5
        have d6 : W8.cell? ⟨b2, 6, none⟩ = some (.bool false) := cell_of_row W8 _ 6 _ 54 (0, 0) hr2
        have df6 : W8.frozen? ⟨b2, 6, none⟩ = false := Row.frozen hr2 6
        have d7 : W8.cell? ⟨b2, 7, none⟩ = some (.bool false) := cell_of_row W8 _ 7 _ 54 (0, 0) hr2
        have df7 : W8.frozen? ⟨b2, 7, none⟩ = false := Row.frozen hr2 7
        have d8 : W8.cell? ⟨b2, 8, none⟩ = some (.int .i64 0) := cell_of_row W8 _ 8 _ 54 (0, 0) hr2
        have df8 : W8.frozen? ⟨b2, 8, none⟩ = false := Row.frozen hr2 8
        clear hr2
        go_wp2
        exact hbad.out W8 400 _ H8.out.res H8.out.bel rfl rfl HO.out
      | true =>
      have HB3 := Lib.hid hb3
      clear hb3
      have hgt : ∀ W, FldsAt W (.slice fa fs.length fc) fs gf → Calls Tryz.prog 78 #[.slice fa fs.length fc, S teU] W fun e w' => e = .returned (.tuple #[S (firstF teL fs), .int .i64 (manyF teL fs : Int)]) ∧ Below W.heap.size W w' := fun W h => by
        have := get_any (.slice fa fs.length fc) fs gf teU (by decide) HPF.out.few (fun f hf => (HPF.out.long f hf).1) W h
        rwa [many_low te_low, first_low te_low] at this
      have hgc : ∀ W, FldsAt W (.slice fa fs.length fc) fs gf → Calls Tryz.prog 78 #[.slice fa fs.length fc, S clU] W fun e w' => e = .returned (.tuple #[S (firstF clL fs), .int .i64 (manyF clL fs : Int)]) ∧ Below W.heap.size W w' := fun W h => by
        have := get_any (.slice fa fs.length fc) fs gf clU (by decide) HPF.out.few (fun f hf => (HPF.out.long f hf).1) W h
        rwa [many_low cl_low, first_low cl_low] at this
      have hfl : (firstF clL fs).length ≤ 100000 := by
        by_cases h0 : manyF clL fs = 0
        · rw [first_none h0]; simp
        · obtain ⟨f, hf, _, e⟩ := first_some h0
          rw [e]; exact (HPF.out.long f hf).2
      have HG := Lib.hid (And.intro hgt hgc)
      have HCT := Lib.hid fun W => count_any (firstF clL fs) hfl (HSAY.out.dig HB3.out) W
      have HY := Lib.hid (And.intro (fun h => HOS.out.trans (HSAY.out.big HL.out rfl HB1.out HB2'.out HB3.out h)) (fun h => HOS.out.symm ▸ HSAY.out.yes HL.out rfl HB1.out HB2'.out HB3.out h))
      clear hgt hgc hfl
      generalize manyF teL fs = T at *
      generalize firstF teL fs = ft at *
      generalize manyF clL fs = N2 at *
      generalize firstF clL fs = fv at *
      generalize cntGo 0 fv = M at *
      have hq := H8.out.req
      have c0 : W8.cell? ⟨b5, 0, none⟩ = some (S rm) := cell_of_row W8 _ 0 _ 27 (0, 0) hq
      have c1 : W8.cell? ⟨b5, 1, none⟩ = some (S rp) := cell_of_row W8 _ 1 _ 27 (0, 0) hq
      have c2 : W8.cell? ⟨b5, 2, none⟩ = some (S rq) := cell_of_row W8 _ 2 _ 27 (0, 0) hq
      have c3 : W8.cell? ⟨b5, 3, none⟩ = some (.int .i64 (rv : Int)) := cell_of_row W8 _ 3 _ 27 (0, 0) hq
      have c4 : W8.cell? ⟨b5, 4, none⟩ = some (.slice fa fs.length fc) := cell_of_row W8 _ 4 _ 27 (0, 0) hq
      have c5 : W8.cell? ⟨b5, 5, none⟩ = some (S []) := cell_of_row W8 _ 5 _ 27 (0, 0) hq
      have c6 : W8.cell? ⟨b5, 6, none⟩ = some (.bool rcl) := cell_of_row W8 _ 6 _ 27 (0, 0) hq
      clear hq
      go_wp2_with fail
      clear c0 c1 c2 c3 c4 c5 c6
      refine (HG.out.1 W8 H8.out.flds).mono ?_
      rintro e W9 ⟨rfl, hB⟩
      have H9 := Lib.hid (H8.out.below hB)
      clear hB H8
      have hq := H9.out.req
      have c0 : W9.cell? ⟨b5, 0, none⟩ = some (S rm) := cell_of_row W9 _ 0 _ 27 (0, 0) hq
      have c1 : W9.cell? ⟨b5, 1, none⟩ = some (S rp) := cell_of_row W9 _ 1 _ 27 (0, 0) hq
      have c2 : W9.cell? ⟨b5, 2, none⟩ = some (S rq) := cell_of_row W9 _ 2 _ 27 (0, 0) hq
      have c3 : W9.cell? ⟨b5, 3, none⟩ = some (.int .i64 (rv : Int)) := cell_of_row W9 _ 3 _ 27 (0, 0) hq
      have c4 : W9.cell? ⟨b5, 4, none⟩ = some (.slice fa fs.length fc) := cell_of_row W9 _ 4 _ 27 (0, 0) hq
      have c5 : W9.cell? ⟨b5, 5, none⟩ = some (S []) := cell_of_row W9 _ 5 _ 27 (0, 0) hq
      have c6 : W9.cell? ⟨b5, 6, none⟩ = some (.bool rcl) := cell_of_row W9 _ 6 _ 27 (0, 0) hq
      clear hq
      go_wp2_with fail
      clear c0 c1 c2 c3 c4 c5 c6
      refine (HG.out.2 W9 H9.out.flds).mono ?_
      rintro e W10 ⟨rfl, hB⟩
      have H10 := Lib.hid (H9.out.below hB)
      clear hB H9
      go_wp2_with fail
      refine (HCT.out W10).mono ?_
      rintro e W11 ⟨rfl, hw11⟩
      rw [hw11]
      clear hw11 HG HCT
      by_cases h4 : 4096 < M
      · have g4 : decide ((4096 : Int) < (M : Int)) = true := decide_eq_true (by omega)
        have HO : Hid (O = .bad 413) := Lib.hid (HY.out.1 h4)
        clear h4
        have hr2 := H10.out.res
        have d0 : W10.cell? ⟨b2, 0, none⟩ = some (.string ⟨#[]⟩) := cell_of_row W10 _ 0 _ 54 (0, 0) hr2
        have df0 : W10.frozen? ⟨b2, 0, none⟩ = false := Row.frozen hr2 0
        have d1 : W10.cell? ⟨b2, 1, none⟩ = some (.string ⟨#[]⟩) := cell_of_row W10 _ 1 _ 54 (0, 0) hr2
        have df1 : W10.frozen? ⟨b2, 1, none⟩ = false := Row.frozen hr2 1
        have d2 : W10.cell? ⟨b2, 2, none⟩ = some (.string ⟨#[]⟩) := cell_of_row W10 _ 2 _ 54 (0, 0) hr2
        have df2 : W10.frozen? ⟨b2, 2, none⟩ = false := Row.frozen hr2 2
        have d3 : W10.cell? ⟨b2, 3, none⟩ = some (.int .i64 0) := cell_of_row W10 _ 3 _ 54 (0, 0) hr2
        have df3 : W10.frozen? ⟨b2, 3, none⟩ = false := Row.frozen hr2 3
        have d4 : W10.cell? ⟨b2, 4, none⟩ = some (.slice none 0 0) := cell_of_row W10 _ 4 _ 54 (0, 0) hr2
        have df4 : W10.frozen? ⟨b2, 4, none⟩ = false := Row.frozen hr2 4
        have d5 : W10.cell? ⟨b2, 5, none⟩ = some (.string ⟨#[]⟩) := cell_of_row W10 _ 5 _ 54 (0, 0) hr2
        have df5 : W10.frozen? ⟨b2, 5, none⟩ = false := Row.frozen hr2 5
        have d6 : W10.cell? ⟨b2, 6, none⟩ = some (.bool false) := cell_of_row W10 _ 6 _ 54 (0, 0) hr2
        have df6 : W10.frozen? ⟨b2, 6, none⟩ = false := Row.frozen hr2 6
        have d7 : W10.cell? ⟨b2, 7, none⟩ = some (.bool false) := cell_of_row W10 _ 7 _ 54 (0, 0) hr2
        have df7 : W10.frozen? ⟨b2, 7, none⟩ = false := Row.frozen hr2 7
        have d8 : W10.cell? ⟨b2, 8, none⟩ = some (.int .i64 0) := cell_of_row W10 _ 8 _ 54 (0, 0) hr2
        have df8 : W10.frozen? ⟨b2, 8, none⟩ = false := Row.frozen hr2 8
        clear hr2
        go_wp2
        exact hbad.out W10 413 _ H10.out.res H10.out.bel rfl rfl HO.out
      have g4 : decide ((4096 : Int) < (M : Int)) = false := decide_eq_false (by omega)
      have HO := Lib.hid (HY.out.2 (by omega))
      clear h4
      have hq := H10.out.req
      have c0 : W10.cell? ⟨b5, 0, none⟩ = some (S rm) := cell_of_row W10 _ 0 _ 27 (0, 0) hq
      have c1 : W10.cell? ⟨b5, 1, none⟩ = some (S rp) := cell_of_row W10 _ 1 _ 27 (0, 0) hq
      have c2 : W10.cell? ⟨b5, 2, none⟩ = some (S rq) := cell_of_row W10 _ 2 _ 27 (0, 0) hq
      have c3 : W10.cell? ⟨b5, 3, none⟩ = some (.int .i64 (rv : Int)) := cell_of_row W10 _ 3 _ 27 (0, 0) hq
      have c4 : W10.cell? ⟨b5, 4, none⟩ = some (.slice fa fs.length fc) := cell_of_row W10 _ 4 _ 27 (0, 0) hq
      have c5 : W10.cell? ⟨b5, 5, none⟩ = some (S []) := cell_of_row W10 _ 5 _ 27 (0, 0) hq
      have c6 : W10.cell? ⟨b5, 6, none⟩ = some (.bool rcl) := cell_of_row W10 _ 6 _ 27 (0, 0) hq
      have hr2 := H10.out.res
      have d0 : W10.cell? ⟨b2, 0, none⟩ = some (.string ⟨#[]⟩) := cell_of_row W10 _ 0 _ 54 (0, 0) hr2
      have df0 : W10.frozen? ⟨b2, 0, none⟩ = false := Row.frozen hr2 0
      have d1 : W10.cell? ⟨b2, 1, none⟩ = some (.string ⟨#[]⟩) := cell_of_row W10 _ 1 _ 54 (0, 0) hr2
      have df1 : W10.frozen? ⟨b2, 1, none⟩ = false := Row.frozen hr2 1
      have d2 : W10.cell? ⟨b2, 2, none⟩ = some (.string ⟨#[]⟩) := cell_of_row W10 _ 2 _ 54 (0, 0) hr2
      have df2 : W10.frozen? ⟨b2, 2, none⟩ = false := Row.frozen hr2 2
      have d3 : W10.cell? ⟨b2, 3, none⟩ = some (.int .i64 0) := cell_of_row W10 _ 3 _ 54 (0, 0) hr2
      have df3 : W10.frozen? ⟨b2, 3, none⟩ = false := Row.frozen hr2 3
      have d4 : W10.cell? ⟨b2, 4, none⟩ = some (.slice none 0 0) := cell_of_row W10 _ 4 _ 54 (0, 0) hr2
      have df4 : W10.frozen? ⟨b2, 4, none⟩ = false := Row.frozen hr2 4
      have d5 : W10.cell? ⟨b2, 5, none⟩ = some (.string ⟨#[]⟩) := cell_of_row W10 _ 5 _ 54 (0, 0) hr2
      have df5 : W10.frozen? ⟨b2, 5, none⟩ = false := Row.frozen hr2 5
      have d6 : W10.cell? ⟨b2, 6, none⟩ = some (.bool false) := cell_of_row W10 _ 6 _ 54 (0, 0) hr2
      have df6 : W10.frozen? ⟨b2, 6, none⟩ = false := Row.frozen hr2 6
      have d7 : W10.cell? ⟨b2, 7, none⟩ = some (.bool false) := cell_of_row W10 _ 7 _ 54 (0, 0) hr2
      have df7 : W10.frozen? ⟨b2, 7, none⟩ = false := Row.frozen hr2 7
      have d8 : W10.cell? ⟨b2, 8, none⟩ = some (.int .i64 0) := cell_of_row W10 _ 8 _ 54 (0, 0) hr2
      have df8 : W10.frozen? ⟨b2, 8, none⟩ = false := Row.frozen hr2 8
      clear hq hr2
      by_cases hT : 0 < T
      · have g5 : decide ((0 : Int) < (T : Int)) = true := decide_eq_true (by omega)
        have g5' : decide (0 < T) = true := decide_eq_true hT
        have HO2 : Hid (O = .ok ⟨rm, rp, rq, rv, fs, [], rcl⟩ none ∧ M = 0) := Lib.hid (by have := HO.out; rw [if_pos hT] at this; exact ⟨this.1, this.2 hT⟩)
        clear hT
        go_wp2
        exact hgood.out W10 (b2 + 1) (.slice fa fs.length fc) ⟨rm, rp, rq, rv, fs, [], rcl⟩ none true (M : Int) _ H10.out.res H10.out.bel H10.out.own (Nat.lt_succ_self _) rfl rfl HO2.out.1 rfl (by rw [HO2.out.2]; rfl)
      · have g5 : decide ((0 : Int) < (T : Int)) = false := decide_eq_false (by omega)
        have g5' : decide (0 < T) = false := decide_eq_false hT
        have HO2 : Hid (O = .ok ⟨rm, rp, rq, rv, fs, [], rcl⟩ (some M)) := Lib.hid (by have := HO.out; rw [if_neg hT] at this; exact this.1)
        clear hT
        go_wp2
        exact hgood.out W10 (b2 + 1) (.slice fa fs.length fc) ⟨rm, rp, rq, rv, fs, [], rcl⟩ (some M) false (M : Int) _ H10.out.res H10.out.bel H10.out.own (Nat.lt_succ_self _) rfl rfl HO2.out rfl rfl
end Go.Proofs.YtplajlccnnbifaaGreatDoor
/- The document's lines, and the automaton. -/
namespace Go.Proofs.YtplajlccnnbifaaGreatDoor
open Go.RowKit

/-- A line from place i on, of which cur was read: its text, the place behind, what is wrong, whether it is whole. -/
def lnGo (most last : Int) : Nat → List UInt8 → List UInt8 → List UInt8 × Nat × Nat × Bool
  | i, _, [] => ([], i, 0, false)
  | i, cur, c :: r => if 0 ≤ last ∧ last ≤ (i : Int) then ([], i + 1, 431, false) else if endCR cur ≠ (c == 10) then ([], i + 1, 400, false)
    else if endCR cur = true then (cur.dropLast, i + 1, 0, true) else if 0 ≤ most ∧ most ≤ (cur.length : Int) then ([], i + 1, 431, false) else lnGo most last (i + 1) (cur ++ [c]) r
/-- How a line's outcome stands to what the automaton does: st was asked, at place i, of the bytes r; next is how it stands behind a whole line; part what it is if the line has not ended. -/
def LineAt (i : Nat) (r : List UInt8) (st : Cst) (part : Cst) (next : List UInt8 → Nat → Cst) (o : List UInt8 × Nat × Nat × Bool) : Prop :=
  i ≤ o.2.1 ∧ o.2.1 ≤ i + r.length ∧
    (o.2.2.2 = true → i < o.2.1 ∧ st.run r = ((o.2.1 - i) + ((next o.1 (o.2.1 - i)).run (r.drop (o.2.1 - i))).1, ((next o.1 (o.2.1 - i)).run (r.drop (o.2.1 - i))).2)) ∧
    (o.2.2.2 = false → o.2.2.1 = 0 → o.2.1 = i + r.length ∧ st.run r = (r.length, part)) ∧
    (o.2.2.2 = false → o.2.2.1 ≠ 0 → st.run r = (o.2.1 - i, ⟨.bad o.2.2.1, st.data⟩))
theorem lineAt_bad {i : Nat} {c : UInt8} {r : List UInt8} {st part : Cst} {next : List UInt8 → Nat → Cst} {b : Nat} (hb : b ≠ 0) (hs : st.stop = false) (h : st.step c = ⟨.bad b, st.data⟩) : LineAt i (c :: r) st part next ([], i + 1, b, false) := by
  refine ⟨by dsimp only; omega, by simp, (fun h => by cases h), (fun _ h => absurd h hb), fun _ _ => ?_⟩
  rw [run_cons hs, h, run_stop rfl]
  dsimp only
  rw [show i + 1 - i = 1 by omega]
theorem lineAt_whole {i : Nat} {c : UInt8} {r t : List UInt8} {st part : Cst} {next : List UInt8 → Nat → Cst} (hs : st.stop = false) (h : st.step c = next t 1) : LineAt i (c :: r) st part next (t, i + 1, 0, true) := by
  refine ⟨by dsimp only; omega, by simp, fun _ => ⟨by dsimp only; omega, ?_⟩, (fun h => by cases h), (fun h => by cases h)⟩
  dsimp only
  rw [show i + 1 - i = 1 by omega, run_cons hs, h]
  simp only [List.drop_succ_cons, List.drop_zero, Prod.mk.injEq, and_true]
  omega
theorem lineAt_step {i : Nat} {c : UInt8} {r : List UInt8} {st st' part : Cst} {next next' : List UInt8 → Nat → Cst} {o : List UInt8 × Nat × Nat × Bool} (hs : st.stop = false) (h : st.step c = st') (hd : st'.data = st.data) (hn : ∀ t k, next' t k = next t (k + 1))
    (ho : LineAt (i + 1) r st' part next' o) : LineAt i (c :: r) st part next o := by
  obtain ⟨h1, h2, h3, h4, h5⟩ := ho
  refine ⟨by omega, by rw [List.length_cons]; omega, fun hw => ?_, fun hw hb => ?_, fun hw hb => ?_⟩
  · obtain ⟨g1, g2⟩ := h3 hw
    refine ⟨by omega, ?_⟩
    rw [run_cons hs, h, g2, hn]
    have e : o.2.1 - i = (o.2.1 - (i + 1)) + 1 := by omega
    rw [e, List.drop_succ_cons]
    simp only [Prod.mk.injEq, and_true]
    omega
  · obtain ⟨g1, g2⟩ := h4 hw hb
    refine ⟨by rw [List.length_cons]; omega, ?_⟩
    rw [run_cons hs, h, g2, List.length_cons]
  · have g := h5 hw hb
    rw [run_cons hs, h, g, hd]
    dsimp only
    simp only [Prod.mk.injEq, and_true]
    omega
theorem line_head : ∀ (r : List UInt8) (i : Nat) (cur d : List UInt8), LineAt i r ⟨.head cur, d⟩ ⟨.head (cur ++ r), d⟩ (fun t _ => ⟨headF t d, d⟩) (lnGo 2048 (-1) i cur r)
  | [], i, cur, d => ⟨by simp [lnGo], by simp [lnGo], (fun h => by cases h), (fun _ _ => by simp [lnGo, Cst.run]), (fun _ h => by simp [lnGo] at h)⟩
  | c :: r, i, cur, d => by
    rw [lnGo, if_neg (by omega)]
    split
    · rename_i h1
      exact lineAt_bad (by decide) rfl (by unfold Cst.step; dsimp only; rw [if_pos h1])
    · rename_i h1
      split
      · rename_i h2
        exact lineAt_whole rfl (by unfold Cst.step; dsimp only; rw [if_neg h1, if_pos h2])
      · rename_i h2
        split
        · rename_i h3
          exact lineAt_bad (by decide) rfl (by unfold Cst.step; dsimp only; rw [if_neg h1, if_neg h2, if_pos (by omega)])
        · rename_i h3
          have ih := line_head r (i + 1) (cur ++ [c]) d
          rw [List.append_assoc] at ih
          exact lineAt_step (st' := ⟨.head (cur ++ [c]), d⟩) rfl (by unfold Cst.step; dsimp only; rw [if_neg h1, if_neg h2, if_neg (by omega)]) rfl (fun _ _ => rfl) ih
theorem line_tail : ∀ (r : List UInt8) (i k f : Nat) (last : Int) (cur d : List UInt8), last = (i : Int) + 2048 - (k : Int) → k ≤ 2048 →
    LineAt i r ⟨.tail cur k f, d⟩ ⟨.tail (cur ++ r) (k + r.length) f, d⟩ (fun t m => ⟨tailF t (k + m) f, d⟩) (lnGo (-1) last i cur r)
  | [], i, k, f, last, cur, d, _, _ => ⟨by simp [lnGo], by simp [lnGo], (fun h => by cases h), (fun _ _ => by simp [lnGo, Cst.run]), (fun _ h => by simp [lnGo] at h)⟩
  | c :: r, i, k, f, last, cur, d, hl, hk => by
    rw [lnGo]
    split
    · rename_i h0
      exact lineAt_bad (by decide) rfl (by unfold Cst.step; dsimp only; rw [if_pos (by omega)])
    · rename_i h0
      have hk2 : k < 2048 := by omega
      split
      · rename_i h1
        exact lineAt_bad (by decide) rfl (by unfold Cst.step; dsimp only; rw [if_neg (by omega), if_pos h1])
      · rename_i h1
        split
        · rename_i h2
          exact lineAt_whole rfl (by unfold Cst.step; dsimp only; rw [if_neg (by omega), if_neg h1, if_pos h2])
        · rename_i h2
          rw [if_neg (by omega)]
          have ih := line_tail r (i + 1) (k + 1) f last (cur ++ [c]) d (by omega) (by omega)
          rw [List.append_assoc] at ih
          have e : (⟨.tail (cur ++ ([c] ++ r)) (k + 1 + r.length) f, d⟩ : Cst) = ⟨.tail (cur ++ (c :: r)) (k + (c :: r).length) f, d⟩ := by
            rw [List.length_cons, show k + 1 + r.length = k + (r.length + 1) by omega]; rfl
          rw [e] at ih
          exact lineAt_step (st' := ⟨.tail (cur ++ [c]) (k + 1) f, d⟩) rfl (by unfold Cst.step; dsimp only; rw [if_neg (by omega), if_neg h1, if_neg h2]) rfl (fun t m => by rw [show k + 1 + m = k + (m + 1) by omega]) ih
/-- Fewer bytes than a chunk has. -/
theorem run_part : ∀ (x d : List UInt8) (n : Nat), x.length < n → (⟨.body n, d⟩ : Cst).run x = (x.length, ⟨.body (n - x.length), d ++ x⟩)
  | [], d, n, _ => by simp [Cst.run]
  | c :: x, d, n, h => by
    simp only [List.length_cons] at h
    have hs : (⟨.body n, d⟩ : Cst).step c = ⟨.body (n - 1), d ++ [c]⟩ := by unfold Cst.step; dsimp only; rw [if_neg (by omega)]
    rw [run_cons rfl, hs, run_part x (d ++ [c]) (n - 1) (by omega), List.append_assoc, List.length_cons, show n - 1 - x.length = n - (x.length + 1) by omega]; rfl
/-- What is read of any bytes, as the document tells it. -/
def readsV (s : List UInt8) : Value := .tuple #[.int .i64 ((Cst.new.run s).1 : Int), S (Cst.new.run s).2.data, .bool (Cst.new.run s).2.isDone, .int .i64 ((Cst.new.run s).2.badN : Int)]
/-- So far: the bytes ahead of place at are read, and it stands so. -/
def Upto (s : List UInt8) (at' : Nat) (st : Cst) : Prop := at' ≤ s.length ∧ Cst.new.run s = (at' + (st.run (s.drop at')).1, (st.run (s.drop at')).2)
theorem upto_new (s : List UInt8) : Upto s 0 Cst.new := ⟨Nat.zero_le _, by rw [List.drop_zero]; simp⟩
theorem Upto.step {s : List UInt8} {a k : Nat} {st st' : Cst} (h : Upto s a st) (hk : a + k ≤ s.length) (hr : st.run (s.drop a) = (k + (st'.run (s.drop (a + k))).1, (st'.run (s.drop (a + k))).2)) : Upto s (a + k) st' := by
  refine ⟨hk, ?_⟩
  rw [h.2, hr]
  dsimp only
  simp only [Prod.mk.injEq, and_true]
  omega
/-- One byte more. -/
theorem Upto.byte {s : List UInt8} {a : Nat} {st : Cst} {c : UInt8} (h : Upto s a st) (hc : s[a]? = some c) (hs : st.stop = false) : Upto s (a + 1) (st.step c) := by
  obtain ⟨hl, rfl⟩ := List.getElem?_eq_some_iff.1 hc
  refine h.step (by omega) ?_
  rw [List.drop_eq_getElem_cons hl, run_cons hs]
  simp only [Prod.mk.injEq, and_true]
  omega
theorem Upto.stop {s : List UInt8} {a : Nat} {st : Cst} (h : Upto s a st) (hs : st.stop = true) : Cst.new.run s = (a, st) := by rw [h.2, run_stop hs]; rfl
theorem Upto.over {s : List UInt8} {st : Cst} (h : Upto s s.length st) : Cst.new.run s = (s.length, st) := by
  rw [h.2, List.drop_of_length_le (Nat.le_refl _)]; rfl
end Go.Proofs.YtplajlccnnbifaaGreatDoor
/- What is asked of the package of chunks; awake walked over it. -/
namespace Go.Proofs.YtplajlccnnbifaaGreatDoor
open Go.RowKit
attribute [local go_sem] store_one S_match S_store

/-- What is asked of the package: a shape (the reader of block g may turn the blocks F; it stands as st), and what each call does. -/
structure ChunkI (RA : World → (Nat → Prop) → Nat → Cst → Prop) : Prop where
  lt : ∀ {w : World} {F : Nat → Prop} {g : Nat} {st : Cst}, RA w F g st → F g ∧ ∀ k, F k → k < w.heap.size
  same : ∀ {w w' : World} {F : Nat → Prop} {g : Nat} {st : Cst}, RA w F g st → w.heap.size ≤ w'.heap.size → (∀ k, F k → w'.heap[k]? = w.heap[k]?) → RA w' F g st
  new : ∀ (w : World), Calls Tryz.prog 42 #[] w fun e w' => ∃ g F, e = .returned (.pointer (some ⟨g, 0, none⟩)) ∧ RA w' F g Cst.new ∧ (∀ k, F k → w.heap.size ≤ k) ∧ Below w.heap.size w w'
  feed : ∀ {w : World} {F : Nat → Prop} {g : Nat} {st : Cst} (s : List UInt8), RA w F g st → s.length ≤ 100000 → Calls Tryz.prog 82 #[.pointer (some ⟨g, 0, none⟩), S s] w fun e w' => e = .returned (.int .i64 ((st.run s).1 : Int)) ∧ ∃ F', RA w' F' g (st.run s).2 ∧ Moves F F' w w'
  data : ∀ {w : World} {F : Nat → Prop} {g : Nat} {st : Cst}, RA w F g st → Calls Tryz.prog 83 #[.pointer (some ⟨g, 0, none⟩)] w fun e w' => e = .returned (S st.data) ∧ Below w.heap.size w w'
  done : ∀ {w : World} {F : Nat → Prop} {g : Nat} {st : Cst}, RA w F g st → Calls Tryz.prog 80 #[.pointer (some ⟨g, 0, none⟩)] w fun e w' => e = .returned (.bool st.isDone) ∧ Below w.heap.size w w'
  bad : ∀ {w : World} {F : Nat → Prop} {g : Nat} {st : Cst}, RA w F g st → Calls Tryz.prog 81 #[.pointer (some ⟨g, 0, none⟩)] w fun e w' => e = .returned (.int .i64 (st.badN : Int)) ∧ Below w.heap.size w w'
  feed0 : ∀ (s : List UInt8) (w : World), s.length ≤ 100000 → Calls Tryz.prog 82 #[.pointer none, S s] w fun e w' => e = .returned (.int .i64 0) ∧ Below w.heap.size w w'
  data0 : ∀ (w : World), Calls Tryz.prog 83 #[.pointer none] w fun e w' => e = .returned (S []) ∧ Below w.heap.size w w'
  done0 : ∀ (w : World), Calls Tryz.prog 80 #[.pointer none] w fun e w' => e = .returned (.bool false) ∧ Below w.heap.size w w'
  bad0 : ∀ (w : World), Calls Tryz.prog 81 #[.pointer none] w fun e w' => e = .returned (.int .i64 400) ∧ Below w.heap.size w w'
section
variable {RA : World → (Nat → Prop) → Nat → Cst → Prop} {w w' : World} {F F' G : Nat → Prop} {g : Nat} {st : Cst}
theorem ChunkI.below (C : ChunkI RA) (h : RA w F g st) (hb : Below w.heap.size w w') : RA w' F g st := C.same h hb.size (fun k hk => hb.block k ((C.lt h).2 k hk))
/-- A reader beside what moves. -/
theorem ChunkI.aside (C : ChunkI RA) (h : RA w G g st) (hm : Moves F F' w w') (hd : ∀ k, G k → ¬ F k) : RA w' G g st ∧ ∀ k, G k → ¬ F' k := by
  have := hm.apart (G := G) (fun k hk => ⟨(C.lt h).2 k hk, hd k hk⟩)
  exact ⟨C.same h hm.size this.1, fun k hk => (this.2 k hk).2⟩
end
end Go.Proofs.YtplajlccnnbifaaGreatDoor
/- The landed parser in memory; its short functions walked. -/
namespace Go.Proofs.YtplajlccnnbifaaGreatDoor
open Go.RowKit
attribute [local go_sem] store_one S_match S_store eguard_BN nguard_BN

/-- The cells of a request whose head was read. -/
def pdCells (m p q : List UInt8) (v : Nat) (V : Value) (body : List UInt8) (cl ic : Bool) (sz : Nat) (cp : Value) (rd : Nat) : Array Value :=
  #[S m, S p, S q, .int .i64 (v : Int), V, S body, .bool cl, .bool ic, .int .i64 (sz : Int), cp, .int .i64 (rd : Int)]
/-- A request whose head was read lies in block gp, its fields in gf, its reader of chunks in gc; X is all that. n: where its head ends in s. -/
structure PdAt (RC : World → (Nat → Prop) → Nat → Cst → Prop) (w : World) (X : Nat → Prop) (gp : Nat) (s : List UInt8) (r : Rq) (len : Option Nat) (n : Nat) (V : Value) (gf : Nat) (cp : Value) (rd : Nat) : Prop where
  row : Row w gp (pdCells r.m r.p r.q r.v V [] r.cl len.isNone (len.getD 0) cp rd) 57
  flds : FldsAt w V r.fs gf
  gf_in : r.fs = [] ∨ (X gf ∧ gf ≠ gp)
  gp_in : X gp
  lt : ∀ k, X k → k < w.heap.size
  ends : endF s = some n
  soon : n ≤ 2048
  says : headR (s.take (n - 4)) = .ok r len
  plain : ∀ k, len = some k → rd = n ∧ k ≤ 4096 ∧ cp = .pointer none
  chunks : len = none → ∃ gc Fc st, cp = .pointer (some ⟨gc, 0, none⟩) ∧ RC w Fc gc st ∧ (∀ k, Fc k → X k ∧ k ≠ gp) ∧ (r.fs = [] ∨ ¬ Fc gf) ∧ n ≤ rd ∧ rd ≤ s.length ∧ Cst.new.run ((s.drop n).take (rd - n)) = (rd - n, st)
/-- The next request, if its head was read. -/
def NxAt (RC : World → (Nat → Prop) → Nat → Cst → Prop) (w : World) (X : Nat → Prop) (s : List UInt8) (nv : Value) : Prop :=
  (nv = .pointer none ∧ ∀ k, ¬ X k) ∨ ∃ gp r len n V gf cp rd, nv = .pointer (some ⟨gp, 0, none⟩) ∧ PdAt RC w X gp s r len n V gf cp rd
/-- The parser of block g stands as st. -/
structure PrAt (RC : World → (Nat → Prop) → Nat → Cst → Prop) (w : World) (F : Nat → Prop) (g : Nat) (st : PSt) (v : Value) (ow : Option Nat) (X : Nat → Prop) (nv : Value) : Prop where
  row : Row w g #[v, nv, .int .i64 (st.bad : Int)] 39
  wait : WaitO w v ow st.buf
  next : NxAt RC w X st.buf nv
  foot : ∀ k, F k ↔ k = g ∨ ow = some k ∨ X k
  g_x : ¬ X g
  ow_g : ∀ k, ow = some k → k ≠ g ∧ ¬ X k
  clean : st.bad ≠ 0 → st.buf = [] ∧ nv = .pointer none
def RP0 (RC : World → (Nat → Prop) → Nat → Cst → Prop) (w : World) (F : Nat → Prop) (g : Nat) (st : PSt) : Prop := ∃ v ow X nv, PrAt RC w F g st v ow X nv
section
variable {RC : World → (Nat → Prop) → Nat → Cst → Prop} {w w' : World} {X F : Nat → Prop} {g : Nat} {st : PSt}
theorem PdAt.same {gp : Nat} {s : List UInt8} {r : Rq} {len : Option Nat} {n : Nat} {V : Value} {gf : Nat} {cp : Value} {rd : Nat} (C : ChunkI RC) (h : PdAt RC w X gp s r len n V gf cp rd) (hs : w.heap.size ≤ w'.heap.size) (hb : ∀ k, X k → w'.heap[k]? = w.heap[k]?) : PdAt RC w' X gp s r len n V gf cp rd where
  row := (hb gp h.gp_in).trans h.row
  flds := h.flds.same (fun hne => hb gf (h.gf_in.resolve_left hne).1)
  gf_in := h.gf_in
  gp_in := h.gp_in
  lt := fun k hk => Nat.lt_of_lt_of_le (h.lt k hk) hs
  ends := h.ends
  soon := h.soon
  says := h.says
  plain := h.plain
  chunks := fun hl => by
    obtain ⟨gc, Fc, st, h1, h2, h3, h4⟩ := h.chunks hl
    exact ⟨gc, Fc, st, h1, C.same h2 hs (fun k hk => hb k (h3 k hk).1), h3, h4⟩
theorem NxAt.same {s : List UInt8} {nv : Value} (C : ChunkI RC) (h : NxAt RC w X s nv) (hs : w.heap.size ≤ w'.heap.size) (hb : ∀ k, X k → w'.heap[k]? = w.heap[k]?) : NxAt RC w' X s nv := by
  rcases h with h | ⟨gp, r, len, n, V, gf, cp, rd, h1, h2⟩
  · exact .inl h
  · exact .inr ⟨gp, r, len, n, V, gf, cp, rd, h1, h2.same C hs hb⟩
theorem NxAt.lt {s : List UInt8} {nv : Value} (h : NxAt RC w X s nv) : ∀ k, X k → k < w.heap.size := fun k hk => by
  rcases h with h | ⟨gp, r, len, n, V, gf, cp, rd, h1, h2⟩
  · exact absurd hk (h.2 k)
  · exact h2.lt k hk
theorem PrAt.lt {v : Value} {ow : Option Nat} {nv : Value} (h : PrAt RC w F g st v ow X nv) : F g ∧ ∀ k, F k → k < w.heap.size :=
  ⟨(h.foot g).2 (.inl rfl), fun k hk => by
    rcases (h.foot k).1 hk with rfl | h1 | h1
    · exact h.row.lt
    · exact h.wait.lt k h1
    · exact h.next.lt k h1⟩
theorem PrAt.same {v : Value} {ow : Option Nat} {nv : Value} (C : ChunkI RC) (h : PrAt RC w F g st v ow X nv) (hs : w.heap.size ≤ w'.heap.size) (hb : ∀ k, F k → w'.heap[k]? = w.heap[k]?) : PrAt RC w' F g st v ow X nv where
  row := (hb g h.lt.1).trans h.row
  wait := h.wait.same (fun k hk => hb k ((h.foot k).2 (.inr (.inl hk))))
  next := h.next.same C hs (fun k hk => hb k ((h.foot k).2 (.inr (.inr hk))))
  foot := h.foot
  g_x := h.g_x
  ow_g := h.ow_g
  clean := h.clean
theorem PrAt.cells {v : Value} {ow : Option Nat} {nv : Value} (h : PrAt RC w F g st v ow X nv) : w.cell? ⟨g, 0, none⟩ = some v ∧ w.cell? ⟨g, 1, none⟩ = some nv ∧ w.cell? ⟨g, 2, none⟩ = some (.int .i64 (st.bad : Int)) :=
  ⟨cell_of_row w g 0 _ _ (0, 0) h.row, cell_of_row w g 1 _ _ (0, 0) h.row, cell_of_row w g 2 _ _ (0, 0) h.row⟩
theorem PrAt.frozen {v : Value} {ow : Option Nat} {nv : Value} (h : PrAt RC w F g st v ow X nv) (i : Nat) : w.frozen? ⟨g, i, none⟩ = false := Row.frozen h.row i
/-- What a parser that nobody made is. -/
theorem zero_at (RC : World → (Nat → Prop) → Nat → Cst → Prop) (w : World) : PrAt RC (w.alloc (.cells #[.slice none 0 0, .pointer none, .int .i64 0] 39)) (fun k => k = w.heap.size) w.heap.size PSt.new (.slice none 0 0) none (fun _ => False) (.pointer none) where
  row := row_new w _ _
  wait := WaitO.nil _
  next := .inl ⟨rfl, fun _ h => h⟩
  foot := fun k => by simp
  g_x := fun h => h
  ow_g := fun k hk => by cases hk
  clean := fun h => absurd rfl h
/-- A parser with nothing in it but what is wrong, in the same block. -/
theorem clean_at {W : World} {b : Nat} (hr : Row W g #[.slice none 0 0, .pointer none, .int .i64 (b : Int)] 39) : PrAt RC W (fun k => k = g) g ⟨[], b⟩ (.slice none 0 0) none (fun _ => False) (.pointer none) where
  row := hr
  wait := WaitO.nil _
  next := .inl ⟨rfl, fun _ h => h⟩
  foot := fun k => by simp
  g_x := fun h => h
  ow_g := fun k hk => by cases hk
  clean := fun _ => ⟨rfl, rfl⟩
end
/-- The parser's three cells turned. -/
def put3 (W : World) (g : Nat) (v0 v1 v2 : Value) : World := ((W.setCell ⟨g, 0, none⟩ v0).setCell ⟨g, 1, none⟩ v1).setCell ⟨g, 2, none⟩ v2
theorem put3_row {W : World} {g : Nat} {t : TypeId} {a b c : Value} (h : Row W g #[a, b, c] t) (v0 v1 v2 : Value) : Row (put3 W g v0 v1 v2) g #[v0, v1, v2] t := ((h.set 0 v0).set 1 v1).set 2 v2
theorem put3_moves {W : World} {g : Nat} {F : Nat → Prop} (hg : F g) (v0 v1 v2 : Value) : Moves F (fun k => k = g) W (put3 W g v0 v1 v2) := by
  have k : ∀ (W : World) i v, Keeps g W (W.setCell ⟨g, i, none⟩ v) := fun W i v => Keeps.setCell W i v
  refine ⟨rfl, rfl, rfl, by unfold put3; simp [World.setCell], fun k hk => .inl (by rw [hk]; exact hg), fun j hj hn => ?_⟩
  have hne : j ≠ g := fun e => hn (by rw [e]; exact hg)
  unfold put3
  rw [Below.heap_setCell _ _ _ _ hne, Below.heap_setCell _ _ _ _ hne, Below.heap_setCell _ _ _ _ hne]
set_option maxRecDepth 100000 in
set_option maxHeartbeats 400000 in
theorem new_any (RC : World → (Nat → Prop) → Nat → Cst → Prop) (w : World) : Calls Tryz.prog 7 #[] w fun e w' => ∃ g F, e = .returned (.pointer (some ⟨g, 0, none⟩)) ∧ RP0 RC w' F g PSt.new ∧ (∀ k, F k → w.heap.size ≤ k) ∧ Below w.heap.size w w' := by
  go_enter Tryz.func7, Tryz.ntmps7
  go_wp2
  go_ret
  exact ⟨_, _, rfl, ⟨_, _, _, _, zero_at RC w⟩, fun k hk => by omega, (Below.refl _ w).alloc (Nat.le_refl _) _⟩
section
variable {RC : World → (Nat → Prop) → Nat → Cst → Prop} {w : World} {F : Nat → Prop} {g : Nat} {st : PSt}
set_option maxRecDepth 100000 in
set_option maxHeartbeats 400000 in
theorem pbad_any (h : RP0 RC w F g st) : Calls Tryz.prog 15 #[.pointer (some ⟨g, 0, none⟩)] w fun e w' => e = .returned (.int .i64 (st.bad : Int)) ∧ Below w.heap.size w w' := by
  obtain ⟨v, ow, X, nv, h⟩ := h
  obtain ⟨_, _, c2⟩ := h.cells
  clear h
  go_enter Tryz.func15, Tryz.ntmps15
  go_wp2
  go_ret
  exact ⟨rfl, Below.refl _ w⟩
set_option maxRecDepth 100000 in
set_option maxHeartbeats 400000 in
theorem idle_any (h : RP0 RC w F g st) : Calls Tryz.prog 13 #[.pointer (some ⟨g, 0, none⟩)] w fun e w' => e = .returned (.bool (decide (st.bad = 0) && st.buf == [])) ∧ Below w.heap.size w w' := by
  obtain ⟨v, ow, X, nv, h⟩ := h
  obtain ⟨c0, _, c2⟩ := h.cells
  have hl := h.wait.toV.len 3
  obtain ⟨a, c, rfl, _⟩ := h.wait.form
  have HE : Hid ((st.buf == []) = decide (st.buf.length = 0)) := Lib.hid (by cases st.buf <;> simp)
  clear h
  by_cases hb : st.bad = 0
  · have q0 : ((st.bad : Int) == 0) = true := by rw [beq_iff_eq]; omega
    by_cases hn : st.buf.length = 0
    · have q1 : ((st.buf.length : Int) == 0) = true := by rw [beq_iff_eq]; omega
      have HR : Hid ((decide (st.bad = 0) && st.buf == []) = true) := Lib.hid (by rw [HE.out, decide_eq_true hb, decide_eq_true hn]; rfl)
      clear hb hn
      go_enter Tryz.func13, Tryz.ntmps13
      go_wp2
      go_ret
      exact ⟨by rw [HR.out]; rfl, Below.refl _ w⟩
    · have q1 : ((st.buf.length : Int) == 0) = false := by rw [beq_eq_false_iff_ne]; omega
      have HR : Hid ((decide (st.bad = 0) && st.buf == []) = false) := Lib.hid (by rw [HE.out, decide_eq_false hn, Bool.and_false])
      clear hb hn
      go_enter Tryz.func13, Tryz.ntmps13
      go_wp2
      go_ret
      exact ⟨by rw [HR.out]; rfl, Below.refl _ w⟩
  · have q0 : ((st.bad : Int) == 0) = false := by rw [beq_eq_false_iff_ne]; omega
    have HR : Hid ((decide (st.bad = 0) && st.buf == []) = false) := Lib.hid (by rw [decide_eq_false hb, Bool.false_and])
    clear hb
    go_enter Tryz.func13, Tryz.ntmps13
    go_wp2
    go_ret
    exact ⟨by rw [HR.out]; rfl, Below.refl _ w⟩
set_option maxRecDepth 100000 in
set_option maxHeartbeats 400000 in
theorem pfail_any (c : Nat) (h : RP0 RC w F g st) : Calls Tryz.prog 40 #[.pointer (some ⟨g, 0, none⟩), .int .i64 (c : Int)] w fun e w' => e = .returned (.tuple #[]) ∧ ∃ F', RP0 RC w' F' g ⟨[], c⟩ ∧ Moves F F' w w' := by
  obtain ⟨v, ow, X, nv, h⟩ := h
  obtain ⟨c0, c1, c2⟩ := h.cells
  have f0 := h.frozen 0
  have f1 := h.frozen 1
  have f2 := h.frozen 2
  have H := Lib.hid (And.intro h.row h.lt.1)
  clear h
  go_enter Tryz.func40, Tryz.ntmps40
  go_wp2
  refine bodyPost_end (results_none rfl _ _ _) rfl ?_
  exact ⟨rfl, fun k => k = g, ⟨_, _, _, _, clean_at (put3_row H.out.1 (.slice none 0 0) (.pointer none) (.int .i64 (c : Int)))⟩, put3_moves H.out.2 _ _ _⟩
set_option maxRecDepth 100000 in
set_option maxHeartbeats 400000 in
theorem rest_any (h : RP0 RC w F g st) : Calls Tryz.prog 16 #[.pointer (some ⟨g, 0, none⟩)] w fun e w' => e = .returned (S st.buf) ∧ ∃ F', RP0 RC w' F' g st.rest ∧ Moves F F' w w' := by
  obtain ⟨v, ow, X, nv, h⟩ := h
  obtain ⟨c0, c1, c2⟩ := h.cells
  have f0 := h.frozen 0
  have f1 := h.frozen 1
  have f2 := h.frozen 2
  have ht := h.wait.toV.text
  have H := Lib.hid h
  clear h
  by_cases hb : st.bad = 0
  · have q0 : ((st.bad : Int) == 0) = true := by rw [beq_iff_eq]; omega
    have q1 : ((st.bad : Int) != 0) = false := by rw [bne_eq_false_iff_eq]; omega
    have HS : Hid (st.rest = ⟨[], 0⟩) := Lib.hid (by unfold PSt.rest; rw [hb])
    clear hb
    go_enter Tryz.func16, Tryz.ntmps16
    go_wp2
    go_ret
    rw [HS.out]
    exact ⟨rfl, fun k => k = g, ⟨_, _, _, _, clean_at (b := 0) (put3_row H.out.row (.slice none 0 0) (.pointer none) (.int .i64 0))⟩, put3_moves H.out.lt.1 _ _ _⟩
  · have q0 : ((st.bad : Int) == 0) = false := by rw [beq_eq_false_iff_ne]; omega
    have q1 : ((st.bad : Int) != 0) = true := by rw [bne_iff_ne]; omega
    have HS : Hid (st.buf = [] ∧ st.rest = st) := Lib.hid ⟨(H.out.clean hb).1, by unfold PSt.rest; rw [← (H.out.clean hb).1]⟩
    clear hb
    go_enter Tryz.func16, Tryz.ntmps16
    go_wp2
    go_ret
    rw [HS.out.2]
    exact ⟨by rw [HS.out.1]; rfl, F, ⟨_, _, _, _, H.out⟩, Moves.refl F w⟩
end
end Go.Proofs.YtplajlccnnbifaaGreatDoor
/- The landed parser's Feed walked; where a head ends, looked for in what may be one. -/
namespace Go.Proofs.YtplajlccnnbifaaGreatDoor
open Go.RowKit
attribute [local go_sem] store_one S_match S_store eguard_BN nguard_BN

theorem exec_append_two {a : Act} {o : Oper} (t1 t2 : TypeId) (x y : Operand) (X Y : Value) {w : World} {P : Program} (ho : o.op = .call { callee := .builtin .append, args := #[x, y], argTypes := #[t1, t2] }) (hx : a.eval x = X) (hy : a.eval y = Y) {v' : Value} {w' : World}
    (hr : (Builtin.append_ #[t1, t2] o.type #[X, Y]).run P w = .ok v' w') : (execOp a.eval o).run P w = .ok (.value v') w' := by
  simp only [execOp, ho, resolve, invoke, builtin, Sem.run_bind, Sem.run_pure, Result.andThen_ok, List.map_toArray, List.map_cons, List.map_nil, hx, hy, hr]
theorem wpList_append_two {P : Program} {ops : Array Oper} {rest : List Oper} {o : Oper} {a : Act} {w : World} {Q : Exit → Act → World → Prop} (hgd : o.guard = none) (t1 t2 : TypeId) (x y : Operand) (X Y : Value) (ho : o.op = .call { callee := .builtin .append, args := #[x, y], argTypes := #[t1, t2] }) (hx : a.eval x = X) (hy : a.eval y = Y) {v' : Value} {w' : World}
    (hr : (Builtin.append_ #[t1, t2] o.type #[X, Y]).run P w = .ok v' w') (h : wpList P ops Q rest (a.put o.dst v') w') : wpList P ops Q (o :: rest) a w :=
  wpList_plain hgd fun K hK => by
    unfold Oper.wp
    rw [exec_append_two t1 t2 x y X Y ho hx hy hr]
    exact hK _ _ h
section
variable {RC : World → (Nat → Prop) → Nat → Cst → Prop} {w w' : World} {X F : Nat → Prop} {g : Nat} {st : PSt}
/-- More stands behind. -/
theorem PdAt.more {gp : Nat} {s : List UInt8} {r : Rq} {len : Option Nat} {n : Nat} {V : Value} {gf : Nat} {cp : Value} {rd : Nat} (h : PdAt RC w X gp s r len n V gf cp rd) (t : List UInt8) : PdAt RC w X gp (s ++ t) r len n V gf cp rd where
  row := h.row
  flds := h.flds
  gf_in := h.gf_in
  gp_in := h.gp_in
  lt := h.lt
  ends := endF_append s t n h.ends
  soon := h.soon
  says := by
    have := endF_le s n h.ends
    rw [List.take_append_of_le_length (by omega)]; exact h.says
  plain := h.plain
  chunks := fun hl => by
    obtain ⟨gc, Fc, st, h1, h2, h3, h4, h5, h6, h7⟩ := h.chunks hl
    have := endF_le s n h.ends
    refine ⟨gc, Fc, st, h1, h2, h3, h4, h5, by rw [List.length_append]; omega, ?_⟩
    rw [List.drop_append_of_le_length (by omega), List.take_append_of_le_length (by rw [List.length_drop]; omega)]
    exact h7
theorem NxAt.more {s : List UInt8} {nv : Value} (h : NxAt RC w X s nv) (t : List UInt8) : NxAt RC w X (s ++ t) nv := by
  rcases h with h | ⟨gp, r, len, n, V, gf, cp, rd, h1, h2⟩
  · exact .inl h
  · exact .inr ⟨gp, r, len, n, V, gf, cp, rd, h1, h2.more t⟩
theorem moves_grow {F F' : Nat → Prop} {w1 : World} {ow : Option Nat} (hgr : w.grownBy w1 ow) (how : ∀ k, ow = some k → F k) (hf : ∀ k, F' k → F k ∨ w.heap.size ≤ k) (hg : F g) (i : Nat) (v : Value) : Moves F F' w (w1.setCell ⟨g, i, none⟩ v) := by
  refine ⟨hgr.os, hgr.tape, hgr.output, by have := hgr.size; simpa [World.setCell] using this, hf, fun j hj hn => ?_⟩
  rw [Below.heap_setCell _ _ _ _ (fun e => hn (by rw [e]; exact hg))]
  exact hgr.block j hj (fun e => hn (how j e.symm))
set_option maxRecDepth 100000 in
set_option maxHeartbeats 400000 in
theorem pfeed_any (C : ChunkI RC) (s : List UInt8) (h : RP0 RC w F g st) (hs : st.buf.length + s.length ≤ 100000) : Calls Tryz.prog 8 #[.pointer (some ⟨g, 0, none⟩), S s] w fun e w' => e = .returned (.tuple #[]) ∧ ∃ F', RP0 RC w' F' g (st.feed s) ∧ Moves F F' w w' := by
  obtain ⟨v, ow, X, nv, h⟩ := h
  obtain ⟨c0, c1, c2⟩ := h.cells
  have H := Lib.hid (And.intro h C)
  by_cases hb : st.bad = 0
  · have q0 : ((st.bad : Int) == 0) = true := by rw [beq_iff_eq]; omega
    have q1 : ((st.bad : Int) != 0) = false := by rw [bne_eq_false_iff_eq]; omega
    have HS : Hid (st.feed s = ⟨st.buf ++ s, 0⟩ ∧ st.bad = 0) := Lib.hid ⟨by unfold PSt.feed; rw [if_pos hb], hb⟩
    obtain ⟨a, c, ow', w1, hrun, hw, hgr, hor⟩ := h.wait.add s (by omega) 36
    have hne : some g ≠ ow := fun e => (h.ow_g g e.symm).1 rfl
    have hr1 := row_grown h.row hgr hne
    have d0 : w1.cell? ⟨g, 0, none⟩ = some v := cell_of_row w1 g 0 _ _ (0, 0) hr1
    have f0 : w1.frozen? ⟨g, 0, none⟩ = false := Row.frozen hr1 0
    have hgl := h.row.lt
    have HN : Hid (∃ F', RP0 RC (w1.setCell ⟨g, 0, none⟩ (.slice a (st.buf.length + s.length) c)) F' g (st.feed s) ∧ Moves F F' w (w1.setCell ⟨g, 0, none⟩ (.slice a (st.buf.length + s.length) c))) := Lib.hid (by
      have how : ∀ k, ow' = some k → (ow = some k ∨ w.heap.size ≤ k) := fun k hk => by
        rcases hor with e | ⟨e, _⟩
        · exact .inl (e ▸ hk)
        · rw [e] at hk; cases hk; exact .inr (Nat.le_refl _)
      have hog : ∀ k, ow' = some k → k ≠ g ∧ ¬ X k := fun k hk => by
        rcases how k hk with e | e
        · exact h.ow_g k e
        · exact ⟨by omega, fun hx => by have := h.next.lt k hx; omega⟩
      rw [HS.out.1]
      refine ⟨fun k => k = g ∨ ow' = some k ∨ X k, ⟨.slice a (st.buf.length + s.length) c, ow', X, nv, ?_⟩, moves_grow hgr (fun k hk => (h.foot k).2 (.inr (.inl hk))) (fun k hk => ?_) h.lt.1 0 _⟩
      · refine ⟨?_, ?_, ?_, fun k => Iff.rfl, h.g_x, hog, fun hn => absurd rfl hn⟩
        · have := hr1.set 0 (.slice a (st.buf.length + s.length) c)
          rw [HS.out.2] at this
          exact this
        · exact hw.same fun k hk => Below.heap_setCell _ _ _ _ (hog k hk).1
        · refine (h.next.more s).same C (by have := hgr.size; simpa [World.setCell] using this) fun k hk => ?_
          rw [Below.heap_setCell _ _ _ _ (fun e => h.g_x (by rw [← show k = g from e]; exact hk))]
          exact hgr.block k (h.next.lt k hk) (fun e => (h.ow_g k e.symm).2 hk)
      · rcases hk with rfl | hk | hk
        · exact .inl h.lt.1
        · rcases how k hk with e | e
          · exact .inl ((h.foot k).2 (.inr (.inl e)))
          · exact .inr e
        · exact .inl ((h.foot k).2 (.inr (.inr hk))))
    clear h hb hw hgr hor hr1 hne hgl hs
    go_enter Tryz.func8, Tryz.ntmps8
    go_wp2_with (at_builtin; refine wpList_append_two rfl 36 9 (.tmp 17) (.tmp 18) v (S s) rfl rfl rfl hrun ?_)
    refine bodyPost_end (results_none rfl _ _ _) rfl ?_
    exact ⟨rfl, HN.out⟩
  · have q0 : ((st.bad : Int) == 0) = false := by rw [beq_eq_false_iff_ne]; omega
    have q1 : ((st.bad : Int) != 0) = true := by rw [bne_iff_ne]; omega
    have HS : Hid (st.feed s = st) := Lib.hid (by unfold PSt.feed; rw [if_neg hb])
    clear hb h hs
    go_enter Tryz.func8, Tryz.ntmps8
    go_wp2
    first | refine bodyPost_ret (results_none rfl _ _ _) rfl ?_ | refine bodyPost_end (results_none rfl _ _ _) rfl ?_
    rw [HS.out]
    exact ⟨rfl, F, ⟨_, _, _, _, H.out.1⟩, Moves.refl F w⟩
end
set_option maxRecDepth 100000 in
set_option maxHeartbeats 400000 in
theorem pfeed0_any (s : List UInt8) (w : World) : Calls Tryz.prog 8 #[.pointer none, S s] w fun e w' => e = .returned (.tuple #[]) ∧ Below w.heap.size w w' := by
  go_enter Tryz.func8, Tryz.ntmps8
  go_wp2
  first | refine bodyPost_ret (results_none rfl _ _ _) rfl ?_ | refine bodyPost_end (results_none rfl _ _ _) rfl ?_
  exact ⟨rfl, Below.refl _ w⟩
set_option maxRecDepth 100000 in
set_option maxHeartbeats 400000 in
theorem pbad0_any (w : World) : Calls Tryz.prog 15 #[.pointer none] w fun e w' => e = .returned (.int .i64 400) ∧ Below w.heap.size w w' := by
  go_enter Tryz.func15, Tryz.ntmps15
  go_wp2
  go_ret
  exact ⟨rfl, Below.refl _ w⟩
set_option maxRecDepth 100000 in
set_option maxHeartbeats 400000 in
theorem pidle0_any (w : World) : Calls Tryz.prog 13 #[.pointer none] w fun e w' => e = .returned (.bool false) ∧ Below w.heap.size w w' := by
  go_enter Tryz.func13, Tryz.ntmps13
  go_wp2
  go_ret
  exact ⟨rfl, Below.refl _ w⟩
set_option maxRecDepth 100000 in
set_option maxHeartbeats 400000 in
theorem prest0_any (w : World) : Calls Tryz.prog 16 #[.pointer none] w fun e w' => e = .returned (S []) ∧ Below w.heap.size w w' := by
  go_enter Tryz.func16, Tryz.ntmps16
  go_wp2
  go_ret
  exact ⟨rfl, Below.refl _ w⟩
/-! Where a head ends. -/
theorem num_bytes (x : List UInt8) : Lib.bytesOf (x.map fun b => (b.toNat : Int)) = x := by
  simp [Lib.bytesOf, Function.comp_def]
theorem num_range (x : List UInt8) : ∀ n ∈ x.map (fun b => (b.toNat : Int)), 0 ≤ n ∧ n < 256 := by
  intro n hn
  obtain ⟨b, _, rfl⟩ := List.mem_map.1 hn
  have := b.toNat_lt
  omega
theorem num_get (x : List UInt8) (i : Nat) (h : i < x.length) : Value.int .u8 ((x.map fun b => (b.toNat : Int)).getD i 0) = B x[i] := by
  rw [List.getD_eq_getElem?_getD, List.getElem?_map, List.getElem?_eq_getElem h]; rfl
theorem index_any (V : Value) (x s : List UInt8) (W : World) (k2 c2 : Nat) (hV : WaitV W V x) (h2 : ∀ i (h : i < s.length), W.cell? ⟨k2, i, none⟩ = some (B s[i])) (hx : x.length < 4294967281) (hs : 1 ≤ s.length) (hs9 : s.length ≤ 9223372036854775807) (hm : MaxAt W) :
    Calls Tryz.prog 39 #[V, .slice (some ⟨k2, 0, none⟩) s.length c2] W fun e w' => e = .returned (.int .i64 (Lib.index x s)) ∧ Below W.heap.size W w' := by
  obtain ⟨a, c, rfl, hc, hn, hcell⟩ := hV
  obtain ⟨m, hm⟩ := hm
  cases a with
  | none =>
    obtain rfl := hn rfl
    have h0 : x = [] := List.length_eq_zero_iff.1 (by omega)
    subst h0
    refine (Any.bytes_Index_nil Tryz.lays185 (some ⟨k2, 0, none⟩) s.length c2 W hs9 (fun h1 => ⟨k2, 0, _, rfl, h2 0 (by omega)⟩)).mono ?_
    rintro e w' ⟨rfl, rfl⟩
    refine ⟨?_, Below.refl _ _⟩
    cases s with
    | nil => simp at hs
    | cons b t => rfl
  | some a =>
    have := Any.bytes_Index_at Tryz.lays185 a ⟨k2, 0, none⟩ x.length c s.length c2 (x.map fun b => (b.toNat : Int)) (s.map fun b => (b.toNat : Int)) m W (by simp) (by simp) (num_range x) (num_range s)
      (fun i hi => by
        obtain ⟨k, o, ha, hcl⟩ := hcell i hi
        cases ha
        rw [Addr.add_mid, num_get x i hi]; exact hcl)
      (fun i hi => by rw [Addr.add_mid, Nat.zero_add, num_get s i hi]; exact h2 i hi) hc hx hs9 hm
    rw [num_bytes, num_bytes] at this
    refine this.mono ?_
    rintro e w' ⟨he, q, rfl⟩
    exact ⟨he, ⟨rfl, rfl, rfl, Nat.le_refl _, fun _ _ => rfl⟩⟩
/-- A head, looked for in the first bytes. -/
theorem within_none {s x : List UInt8} (hx : x = s.take (min s.length 2048)) (h : Lib.index x [13, 10, 13, 10] = -1) : (x.length = 2048 → stepS s = .bad 431) ∧ (x.length ≠ 2048 → stepS s = .more) := by
  have he : endF x = none := by rw [endF_index, if_pos h]
  have hs : s = x ++ s.drop (min s.length 2048) := by rw [hx, List.take_append_drop]
  have hl : x.length = min s.length 2048 := by rw [hx, List.length_take]; omega
  refine ⟨fun h1 => ?_, fun h1 => ?_⟩
  · unfold stepS
    cases hes : endF s with
    | none => dsimp only; rw [if_pos (by omega)]
    | some n =>
      have := endF_late x (s.drop (min s.length 2048)) n he (by rw [← hs]; exact hes)
      dsimp only
      rw [if_pos (by omega)]
  · have hsx : s = x := by rw [hx, List.take_of_length_le (by omega)]
    unfold stepS
    rw [hsx, he]
    dsimp only
    rw [if_neg (by omega)]
theorem within_some {s x : List UInt8} (hx : x = s.take (min s.length 2048)) {i : Nat} (h : Lib.index x [13, 10, 13, 10] = (i : Int)) : endF s = some (i + 4) ∧ i + 4 ≤ 2048 ∧ x.take i = s.take (i + 4 - 4) ∧ i + 4 ≤ x.length ∧ i + 4 ≤ s.length := by
  have he : endF x = some (i + 4) := by rw [endF_index, if_neg (by omega), h]; rfl
  have hs : s = x ++ s.drop (min s.length 2048) := by rw [hx, List.take_append_drop]
  have hl : x.length = min s.length 2048 := by rw [hx, List.length_take]; omega
  have h4 := (endF_le x _ he).2
  refine ⟨?_, by omega, ?_, h4, by omega⟩
  · rw [hs]; exact endF_append x _ _ he
  · rw [Nat.add_sub_cancel]
    conv => rhs; rw [hs]
    rw [List.take_append_of_le_length (by omega)]
theorem headL_small {L : List (List UInt8)} {r : Rq} {k : Nat} (h : headL L = .ok r (some k)) : k ≤ 4096 := by
  cases L with
  | nil => cases h
  | cons l0 ls =>
    unfold headL at h
    dsimp only at h
    split at h
    · cases h
    · split at h
      · cases h
      · split at h
        · cases h
        · split at h
          · cases h
          · split at h
            · cases h
            · split at h
              · cases h
              · cases h; omega
end Go.Proofs.YtplajlccnnbifaaGreatDoor
