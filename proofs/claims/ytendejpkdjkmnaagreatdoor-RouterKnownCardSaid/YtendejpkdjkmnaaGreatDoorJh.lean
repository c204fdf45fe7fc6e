/- Texts of this proof that several statements share, one behind the other. -/
import Derived.Test.YtendejpkdjkmnaaGreatDoorJg
import Derived.Test.YtendejpkdjkmnaaGreatDoorJc
import Derived.Test.YtendejpkdjkmnaaGreatDoorProg
import Derived.ProofKit
import Derived.Handed
import Derived.OpenShut
import Derived.SizedLaws
/- The landed Serve of routers walked. (mkuwc.py writes it.) -/
namespace Go.Proofs.YtendejpkdjkmnaaGreatDoor
open Go.RowKit Go.Shelf
attribute [local go_sem] store_one S_match S_store

theorem joinP_len (x : Txt) : ∀ p : List Txt, (joinP x p).length = x.length + (sumL p + p.length) := by
  intro p
  unfold joinP
  rw [List.length_append]
  congr 1
  induction p with
  | nil => rfl
  | cons y p ih =>
    rw [List.flatMap_cons, List.length_append, ih, List.length_cons, List.length_cons]
    unfold sumL
    rw [List.map_cons, List.sum_cons]
    omega
theorem params_lines : ∀ s p : List Txt, (linesR (paramsF s p)).length ≤ (sumL s + 2 * s.length) + (sumL p + p.length) ∧ (paramsF s p).length ≤ s.length
  | [], p => by unfold paramsF; exact ⟨by simp [linesR], Nat.le_refl _⟩
  | s :: l, [] => by unfold paramsF; exact ⟨by simp [linesR], Nat.zero_le _⟩
  | s :: l, x :: p => by
    obtain ⟨h1, h2⟩ := params_lines l p
    have e1 : sumL (s :: l) = s.length + sumL l := by unfold sumL; rw [List.map_cons, List.sum_cons]
    have e2 : sumL (x :: p) = x.length + sumL p := by unfold sumL; rw [List.map_cons, List.sum_cons]
    rw [e1, e2, paramsF]
    by_cases k2 : kindS s = 2
    · rw [if_pos k2]
      refine ⟨?_, by simp⟩
      have h3 : (linesR [(s.drop 1, joinP x p)]).length = (s.drop 1).length + ((joinP x p).length + 2) := by
        unfold linesR
        simp
      rw [h3, joinP_len, List.length_drop, List.length_cons, List.length_cons]
      omega
    · rw [if_neg k2]
      by_cases k1 : kindS s = 1
      · rw [if_pos k1]
        have h3 : (linesR ((s.drop 1, x) :: paramsF l p)).length = (s.drop 1).length + (x.length + 2) + (linesR (paramsF l p)).length := by
          unfold linesR
          rw [List.flatMap_cons, List.length_append]
          simp
        rw [h3, List.length_drop, List.length_cons, List.length_cons, List.length_cons]
        exact ⟨by omega, by omega⟩
      · rw [if_neg k1]
        rw [List.length_cons, List.length_cons]
        exact ⟨by omega, by omega⟩
theorem segsOf_small {p : Txt} {segs : List Txt} (h : segsOf p = some segs) : sumL segs + segs.length ≤ p.length ∧ ∀ x ∈ segs, x.length ≤ p.length := by
  have key : ∀ l : List Txt, ∀ x ∈ l, x.length ≤ sumL l := by
    intro l
    induction l with
    | nil => intro x hx; cases hx
    | cons y l ih =>
      intro x hx
      unfold sumL
      rw [List.map_cons, List.sum_cons]
      rcases List.mem_cons.1 hx with rfl | hx
      · exact Nat.le_add_right _ _
      · have := ih x hx
        unfold sumL at this
        omega
  unfold segsOf at h
  by_cases h1 : p = [47]
  · rw [if_pos h1] at h
    obtain rfl := Option.some.inj h
    exact ⟨Nat.zero_le _, fun x hx => (by cases hx)⟩
  · rw [if_neg h1] at h
    have h2 := (split_some h).2.2.1
    exact ⟨h2, fun x hx => by have := key segs x hx; omega⟩
theorem seg_small {p : Txt} (h : p.length ≤ 200) : sumL (segD p) + 2 * (segD p).length ≤ 100000 ∧ (segD p).length ≤ 201 := by
  cases hs : segsF p with
  | none =>
    unfold segD
    rw [hs]
    exact ⟨Nat.zero_le _, Nat.zero_le _⟩
  | some s =>
    have e : segD p = s := by unfold segD; rw [hs]; rfl
    rw [e]
    obtain ⟨_, hc, _⟩ := segsF_head hs
    have h1 : s.length ≤ 201 := by rw [hc]; have := cutS_len p; omega
    have h2 : ∀ y ∈ s, y.length ≤ 200 := fun y hy => by rw [hc] at hy; have := cutS_each p y hy; omega
    have key : ∀ l : List Txt, (∀ y ∈ l, y.length ≤ 200) → sumL l ≤ 200 * l.length := by
      intro l
      induction l with
      | nil => intro _; exact Nat.zero_le _
      | cons y l ih =>
        intro hy
        have a1 := hy y (List.mem_cons_self ..)
        have a2 := ih fun z hz => hy z (List.mem_cons_of_mem _ hz)
        unfold sumL at a2 ⊢
        rw [List.map_cons, List.sum_cons, List.length_cons]
        omega
    have h3 := key s h2
    exact ⟨by omega, h1⟩
theorem FA.sameW {w w' : World} {V : Value} {fs : List (Txt × Txt)} {b o : Nat} (h : FA w V fs b o) (hb : fs ≠ [] → w'.heap[b]? = w.heap[b]?) : FA w' V fs b o :=
  ⟨h.len, h.index, fun i f hf => by
    have hne : fs ≠ [] := fun e => by rw [e] at hf; simp at hf
    obtain ⟨h1, h2⟩ := h.cell i f hf
    exact ⟨by rw [World.cell?_of_block (w := w) (hb hne)]; exact h1, by rw [World.cell?_of_block (w := w) (hb hne)]; exact h2⟩, h.form⟩
def put3w (W : World) (b : Nat) (v0 v1 v2 : Value) : World := ((W.setCell ⟨b, 0, none⟩ v0).setCell ⟨b, 1, none⟩ v1).setCell ⟨b, 2, none⟩ v2
theorem put3w_row {W : World} {b : Nat} {t : TypeId} {a0 a1 a2 : Value} (h : Row W b #[a0, a1, a2] t) (v0 v1 v2 : Value) : Row (put3w W b v0 v1 v2) b #[v0, v1, v2] t := ((h.set 0 v0).set 1 v1).set 2 v2
theorem put3w_below {n : Nat} {w W : World} {b : Nat} (h : Below n w W) (hb : n ≤ b) (v0 v1 v2 : Value) : Below n w (put3w W b v0 v1 v2) :=
  ((h.setCell (p := ⟨b, 0, none⟩) hb v0).setCell (p := ⟨b, 1, none⟩) hb v1).setCell (p := ⟨b, 2, none⟩) hb v2
theorem put3w_other {W : World} {b k : Nat} (v0 v1 v2 : Value) (hk : k ≠ b) : (put3w W b v0 v1 v2).heap[k]? = W.heap[k]? :=
  ((Below.heap_setCell _ _ _ k hk).trans (Below.heap_setCell _ _ _ k hk)).trans (Below.heap_setCell _ _ _ k hk)
theorem results_svW {fn : Func} {p u : Tmp} (h : fn.results = #[.cell p 29, .tmp u]) (tmps : Array Value) (w : World) (g : Nat) (cs : Array Value) (hp : tmps.getD p undef = .pointer (some ⟨g, 0, none⟩)) (hg : w.heap[g]? = some (.cells cs 29 (0, 0))) (h3 : cs.size = 3) :
    (results fn tmps).run Tryz.prog w = .ok (.tuple #[.agg cs, tmps.getD u undef]) w :=
  results_row_tmp h tmps w g 29 cs (0, 0) _ hp hg Tryz.underlying29 rfl (by rw [infoRpW, h3])
/-- The world that Serve begins in. -/
def svW (w : World) (r : RqU) (V : Value) : World := (w.alloc (.cells #[S r.m, S r.p, S r.q, .int .i64 r.v, V, S r.body, .bool r.cl] 24)).alloc (.cells #[.int .i64 0, .slice none 0 0, .string ⟨#[]⟩] 29)
/-- What is read at a later world. -/
structure SvS (w : World) (r : RqU) (g gt : Nat) (W : World) : Prop where
  gt : W.cell? ⟨g, 1, none⟩ = some (.pointer (some ⟨gt, 0, none⟩))
  m : W.cell? ⟨w.heap.size, 0, none⟩ = some (S r.m)
  p : W.cell? ⟨w.heap.size, 1, none⟩ = some (S r.p)
  body : W.cell? ⟨w.heap.size, 5, none⟩ = some (S r.body)
  row : Row W (w.heap.size + 1) #[.int .i64 0, .slice none 0 0, .string ⟨#[]⟩] 29
  bel : Below w.heap.size w W
theorem SvS.below {w : World} {r : RqU} {g gt : Nat} {W W' : World} (h : SvS w r g gt W) (hB : Below W.heap.size W W') : SvS w r g gt W' :=
  have one : ∀ {a : Addr} {v : Value}, W.cell? a = some v → W'.cell? a = some v := fun hc => by rw [hB.cell (World.block_lt_of_cell? W _ hc)]; exact hc
  ⟨one h.gt, one h.m, one h.p, one h.body, h.row.below hB h.row.lt, h.bel.trans (hB.mono h.bel.size)⟩
theorem sv_row (w : World) (r : RqU) (V : Value) : Row (svW w r V) w.heap.size #[S r.m, S r.p, S r.q, .int .i64 r.v, V, S r.body, .bool r.cl] 24 ∧ Row (svW w r V) (w.heap.size + 1) #[.int .i64 0, .slice none 0 0, .string ⟨#[]⟩] 29 ∧ Below w.heap.size w (svW w r V) := by
  refine ⟨(row_new w _ _).alloc _, ?_, ((Below.refl _ w).alloc (Nat.le_refl _) _).alloc (by simp) _⟩
  have := row_new (w.alloc (.cells #[S r.m, S r.p, S r.q, .int .i64 r.v, V, S r.body, .bool r.cl] 24)) #[.int .i64 0, .slice none 0 0, .string ⟨#[]⟩] 29
  rwa [alloc_size] at this
theorem SvS.start {w : World} (r : RqU) (V : Value) {g gt : Nat} {cs : Array Value} {ty : TypeId} (hr : Row w g cs ty) (hc : cs[1]? = some (.pointer (some ⟨gt, 0, none⟩))) : SvS w r g gt (svW w r V) := by
  obtain ⟨h1, h2, h3⟩ := sv_row w r V
  exact ⟨by rw [cell_of_row _ g 1 _ _ (0, 0) (hr.below h3 hr.lt)]; exact hc, cell_of_row _ _ 0 _ _ (0, 0) h1, cell_of_row _ _ 1 _ _ (0, 0) h1, cell_of_row _ _ 5 _ _ (0, 0) h1, h2, h3⟩
/-- What Serve answers. -/
def ServeV (w : World) (X : Rp → Prop) (e : Ending) (w' : World) : Prop := Below w.heap.size w w' ∧ ∃ x Vx bx ox, X x ∧ e = .returned (.tuple #[rpuV x.code Vx x.body, .int .i64 x.kind]) ∧ FA w' Vx x.fs bx ox
/-- The end: the reply is laid into the result's own cells. -/
theorem ServeV.done {w W : World} {X : Rp → Prop} (_hr : Row W (w.heap.size + 1) #[.int .i64 0, .slice none 0 0, .string ⟨#[]⟩] 29) (hB : Below w.heap.size w W) {x : Rp} (hx : X x) {Vx : Value} {bx ox : Nat} (hA : FA W Vx x.fs bx ox) (hb : x.fs ≠ [] → bx ≠ w.heap.size + 1) {e : Ending} (he : e = .returned (.tuple #[rpuV x.code Vx x.body, .int .i64 x.kind])) :
    ServeV w X e (put3w W (w.heap.size + 1) (.int .i64 x.code) Vx (S x.body)) :=
  ⟨put3w_below hB (Nat.le_succ _) _ _ _, x, Vx, bx, ox, hx, he, hA.sameW fun h => put3w_other _ _ _ (hb h)⟩
set_option maxRecDepth 100000 in
set_option maxHeartbeats 1000000 in
theorem serve_nil (r : RqU) (V : Value) (w : World) : Calls Tryz.prog 9 #[.pointer none, rquV r V] w (ServeV w fun x => x = ⟨404, [], notFoundT, 0⟩) := by
  obtain ⟨h1, h2, h3⟩ := sv_row w r V
  have HN := Lib.hid (notfound_any (svW w r V))
  have HW := Lib.hid (show svW w r V = (w.alloc (.cells #[S r.m, S r.p, S r.q, .int .i64 r.v, V, S r.body, .bool r.cl] 24)).alloc (.cells #[.int .i64 0, .slice none 0 0, .string ⟨#[]⟩] 29) from rfl)
  have H2 := Lib.hid (And.intro h2 h3)
  clear h1 h2 h3
  unfold svW at HN
  obtain ⟨m, p, q, v, fs, body, cl⟩ := r
  unfold rquV rquC
  dsimp only at *
  go_enter Tryz.func9, Tryz.ntmps9
  go_wp2_with fail
  refine HN.out.mono ?_
  rintro e W ⟨rfl, hB⟩
  rw [← HW.out] at hB
  have hrow := H2.out.1.below hB H2.out.1.lt
  have hBW := H2.out.2.trans (hB.mono H2.out.2.size)
  have HROW := Lib.hid hrow
  have HBW := Lib.hid hBW
  have c0 := cell_of_row W _ 0 _ _ (0, 0) hrow
  have c1 := cell_of_row W _ 1 _ _ (0, 0) hrow
  have c2 := cell_of_row W _ 2 _ _ (0, 0) hrow
  have f0 := hrow.frozen 0
  have f1 := hrow.frozen 1
  have f2 := hrow.frozen 2
  clear hrow hBW hB
  unfold rpuV rpuC
  go_wp2
  refine bodyPost_ret (results_svW rfl _ _ (w.heap.size + 1) _ rfl (put3w_row HROW.out _ _ _) rfl) rfl ?_
  exact ServeV.done (X := fun x => x = ⟨404, [], notFoundT, 0⟩) (x := ⟨404, [], notFoundT, 0⟩) HROW.out HBW.out rfl (fau_nil W none 0) (fun h => absurd rfl h) rfl
theorem pick_isSome {l : List Rt} {p m : Txt} : (pickR l p m).isSome = true ↔ ∃ r ∈ l, r.p = p ∧ r.m = m := by
  constructor
  · intro h
    obtain ⟨q, hq⟩ := Option.isSome_iff_exists.1 h
    obtain ⟨h1, h2, h3⟩ := pickR_some hq
    exact ⟨q, h1, h2, h3⟩
  · rintro ⟨r, hr, h1, h2⟩
    cases hf : pickR l p m with
    | some _ => rfl
    | none =>
      have := List.find?_eq_none.1 hf r hr
      exact absurd (isRt_iff.2 ⟨h1, h2⟩) this
/-- What is read of the route that was found. -/
structure YesS (w W3 : World) (q1 q2 q4 : Txt) (q3 : Int) (body : Txt) (W : World) : Prop where
  m : W.cell? ⟨W3.heap.size, 0, none⟩ = some (S q1)
  p : W.cell? ⟨W3.heap.size, 1, none⟩ = some (S q2)
  k : W.cell? ⟨W3.heap.size, 2, none⟩ = some (.int .i64 q3)
  t : W.cell? ⟨W3.heap.size, 3, none⟩ = some (S q4)
  body : W.cell? ⟨w.heap.size, 5, none⟩ = some (S body)
theorem YesS.below {w W3 W W' : World} {q1 q2 q4 body : Txt} {q3 : Int} (h : YesS w W3 q1 q2 q4 q3 body W) (hB : Below W.heap.size W W') : YesS w W3 q1 q2 q4 q3 body W' :=
  have one : ∀ {a : Addr} {v : Value}, W.cell? a = some v → W'.cell? a = some v := fun hc => by rw [hB.cell (World.block_lt_of_cell? W _ hc)]; exact hc
  ⟨one h.m, one h.p, one h.k, one h.t, one h.body⟩
theorem YesS.put {w W3 W : World} {q1 q2 q4 body : Txt} {q3 : Int} (h : YesS w W3 q1 q2 q4 q3 body W) {b : Nat} (h1 : W3.heap.size ≠ b) (h2 : w.heap.size ≠ b) (v0 v1 v2 : Value) : YesS w W3 q1 q2 q4 q3 body (put3w W b v0 v1 v2) := by
  have one : ∀ (k j : Nat) (v : Value), k ≠ b → W.cell? ⟨k, j, none⟩ = some v → (put3w W b v0 v1 v2).cell? ⟨k, j, none⟩ = some v := fun k j v hk hc => by
    rw [World.cell?_of_block (w := W) (show (put3w W b v0 v1 v2).heap[(⟨k, j, none⟩ : Addr).block]? = W.heap[(⟨k, j, none⟩ : Addr).block]? from put3w_other v0 v1 v2 hk)]
    exact hc
  exact ⟨one _ _ _ h1 h.m, one _ _ _ h1 h.p, one _ _ _ h1 h.k, one _ _ _ h1 h.t, one _ _ _ h2 h.body⟩
theorem right_kind {r : Rt} (h : rightR r = true) : 1 ≤ r.kind ∧ r.kind ≤ 4 := by
  unfold rightR at h
  rw [Bool.and_eq_true, Bool.and_eq_true, Bool.and_eq_true, Bool.and_eq_true, decide_eq_true_iff, decide_eq_true_iff] at h
  exact h.2.2.1
theorem answer_fs (r : Rt) (ps : List (Txt × Txt)) (body : Txt) (hk : 1 ≤ r.kind ∧ r.kind ≤ 4) : (answerR r ps body).fs = [] ∧ (answerR r ps body).kind = r.kind := by
  unfold answerR
  by_cases h1 : r.kind = 1
  · rw [if_pos h1]; exact ⟨rfl, h1.symm⟩
  · rw [if_neg h1]
    by_cases h2 : r.kind = 2
    · rw [if_pos h2]; exact ⟨rfl, h2.symm⟩
    · rw [if_neg h2]
      by_cases h3 : r.kind = 3
      · rw [if_pos h3]; exact ⟨rfl, h3.symm⟩
      · rw [if_neg h3]
        exact ⟨rfl, by show (4 : Int) = r.kind; omega⟩
set_option maxRecDepth 100000 in
set_option maxHeartbeats 2000000 in
theorem serve_any {w : World} {g gt : Nat} {T : Nat → Prop} {ents : Ents (Option Nat)} {Vr : Value} {gr : Nat} {l : List Rt} (h : RouAt w g gt T ents Vr gr l l) (hs : SmallRo l) (hg : GoodR l) (r : RqU) (hu : SmallU r) (V : Value) (hM : MaxAt w) :
    Calls Tryz.prog 9 #[.pointer (some ⟨g, 0, none⟩), rquV r V] w (ServeV w (ServeIs l r.m r.p r.body)) := by
  have HS0 := Lib.hid (SvS.start r V h.row (gt := gt) rfl)
  have HSG := Lib.hid (segs_any r.p (by have := hu.path; omega) (svW w r V) (hM.below HS0.out.bel))
  have HM := Lib.hid hM
  have HU := Lib.hid hu
  have HG := Lib.hid hg
  have HSM := Lib.hid hs
  have H := Lib.hid h
  unfold svW at HSG HS0
  clear h hs hg hu hM
  cases hsg : segsOf r.p with
  | none =>
    rw [hsg] at HSG
    have HX : Hid (ServeIs l r.m r.p r.body ⟨400, [], badPathT, 0⟩) := Lib.hid (by unfold ServeIs; rw [hsg])
    clear hsg
    obtain ⟨m, p, q, v, fs, body, cl⟩ := r
    unfold rquV rquC
    dsimp only at *
    go_enter Tryz.func9, Tryz.ntmps9
    go_wp2_with fail
    refine HSG.out.mono ?_
    rintro e W ⟨V1, b1, rfl, hT, hB⟩
    have s1 := HS0.out.below hB
    have HS1 := Lib.hid s1
    have HT1 := Lib.hid hT
    obtain ⟨c1, c2, c3, c4, hrow, hbel⟩ := s1
    clear hT hB
    have d0 := cell_of_row W _ 0 _ _ (0, 0) hrow
    have d1 := cell_of_row W _ 1 _ _ (0, 0) hrow
    have d2 := cell_of_row W _ 2 _ _ (0, 0) hrow
    have f0 := hrow.frozen 0
    have f1 := hrow.frozen 1
    have f2 := hrow.frozen 2
    have HROW := Lib.hid hrow
    clear hrow hbel
    go_wp2
    refine bodyPost_ret (results_svW rfl _ _ (w.heap.size + 1) _ rfl (put3w_row HROW.out _ _ _) rfl) rfl ?_
    exact ServeV.done (X := ServeIs l m p body) (x := ⟨400, [], badPathT, 0⟩) HROW.out HS1.out.bel HX.out (fau_nil W none 0) (fun h => absurd rfl h) rfl
  | some segs =>
    rw [hsg] at HSG
    obtain ⟨o, ho⟩ := find_is segs H.out.rg.wf
    have hbest := find_best H.out.rg.pats ho
    have hsmall := segsOf_small hsg
    have HFD : Hid (∀ W V1 b1, SvS w r g gt W → TA W V1 segs b1 0 → Calls Tryz.prog 19 #[.pointer (some ⟨gt, 0, none⟩), V1] W fun e w' => ∃ VF gf o', e = .returned (.tuple #[Value.map (fdX none o), VF, S (fdP o), .bool o.isSome]) ∧ FA w' VF (fdF o segs) gf o' ∧ Below W.heap.size W w') := Lib.hid fun W V1 b1 hS hT => by
      obtain ⟨_, _, _, _, _, _, _, _, hT2⟩ := (H.out.rg.below hS.bel).trie
      refine (findm_any hT2 segs V1 b1 0 o hT ⟨by have := HU.out.path; omega, fun x hx => by have := hsmall.2 x hx; have := HU.out.path; omega⟩ ho (HM.out.below hS.bel)).mono ?_
      rintro e w' ⟨VF, gf, o', rfl, h1, -, h2⟩
      exact ⟨VF, gf, o', rfl, h1, h2⟩
    have HSV : Hid (∀ x, ServeAt l r.m r.body segs x (o.map (·.1)) → ServeIs l r.m r.p r.body x) := Lib.hid fun x hx => by unfold ServeIs; rw [hsg]; exact ⟨_, hbest, hx⟩
    have HSL := Lib.hid hsmall
    cases o with
    | none =>
      have HX : Hid (ServeIs l r.m r.p r.body ⟨404, [], notFoundT, 0⟩) := Lib.hid (HSV.out _ rfl)
      clear hsg hbest hsmall ho
      have HFD := HFD
      obtain ⟨m, p, q, v, fs, body, cl⟩ := r
      unfold rquV rquC
      dsimp only at *
      go_enter Tryz.func9, Tryz.ntmps9
      go_wp2_with fail
      refine HSG.out.mono ?_
      rintro e W ⟨V1, b1, rfl, hT, hB⟩
      have s1 := HS0.out.below hB
      have HS1 := Lib.hid s1
      have HT1 := Lib.hid hT
      obtain ⟨c1, c2, c3, c4, hrow, hbel⟩ := s1
      clear hT hB
      clear hrow hbel
      go_wp2_with fail
      refine (HFD.out W V1 b1 HS1.out HT1.out).mono ?_
      rintro e W2 ⟨VF, gf, o', rfl, hF, hB⟩
      have s2 := HS1.out.below hB
      have HS2 := Lib.hid s2
      have HF2 := Lib.hid hF
      clear c1 c2 c3 c4 hF hB
      obtain ⟨c1, c2, c3, c4, hrow, hbel⟩ := s2
      clear hrow hbel
      go_wp2_with fail
      refine (notfound_any W2).mono ?_
      rintro e W3 ⟨rfl, hB⟩
      have s3 := HS2.out.below hB
      have HS3 := Lib.hid s3
      clear c1 c2 c3 c4 hB
      obtain ⟨c1, c2, c3, c4, hrow, hbel⟩ := s3
      have d0 := cell_of_row W3 _ 0 _ _ (0, 0) hrow
      have d1 := cell_of_row W3 _ 1 _ _ (0, 0) hrow
      have d2 := cell_of_row W3 _ 2 _ _ (0, 0) hrow
      have f0 := hrow.frozen 0
      have f1 := hrow.frozen 1
      have f2 := hrow.frozen 2
      have HROW := Lib.hid hrow
      clear hrow hbel
      unfold rpuV rpuC
      go_wp2
      refine bodyPost_ret (results_svW rfl _ _ (w.heap.size + 1) _ rfl (put3w_row HROW.out _ _ _) rfl) rfl ?_
      exact ServeV.done (X := ServeIs l m p body) (x := ⟨404, [], notFoundT, 0⟩) HROW.out HS3.out.bel HX.out (fau_nil W3 none 0) (fun h => absurd rfl h) rfl
    | some e0 =>
      obtain ⟨pt, xo⟩ := e0
      have hmem : (pt, xo) ∈ ents := IsBest.mem ho
      obtain ⟨mb, hmb, -, -⟩ := H.out.rg.maps _ hmem
      dsimp only at hmb
      subst hmb
      have HRM : Hid (∀ W, Below w.heap.size w W → RMap Tryz.prog 9 W mb l.length (fun s => pickR l pt s)) := Lib.hid fun W hB => by
        obtain ⟨m', e2, -, hr⟩ := (H.out.rg.below hB).maps _ hmem
        rw [Option.some.inj e2]; exact hr
      have HRO : Hid (∀ W, Below w.heap.size w W → Calls Tryz.prog 20 #[.map (some mb), S r.m] W fun e w' => e = .returned (.tuple #[rtV ((routeR l pt r.m).getD rt0), .bool (routeR l pt r.m).isSome]) ∧ Below W.heap.size W w') := Lib.hid fun W hB => route_any (HRM.out W hB) r.m (by have := HU.out.meth; omega)
      have hpt : ∃ r0 ∈ l, r0.p = pt := H.out.rg.pats.of _ hmem
      have HPT := Lib.hid hpt
      clear hbest hsmall ho hmem hpt hsg
      cases hq : routeR l pt r.m with
      | none =>
        rw [hq] at HRO
        have HAL : Hid (∀ W, Below w.heap.size w W → Calls Tryz.prog 21 #[.map (some mb)] W fun e w' => ∃ s, e = .returned (S s) ∧ ServeIs l r.m r.p r.body ⟨405, [(allowT, s)], noSuchT, 0⟩ ∧ Below W.heap.size W w') := Lib.hid fun W hB => by
          obtain ⟨r0, hr0, hp0⟩ := HPT.out
          refine (allow_any (HRM.out W hB) (by have := HSM.out.1; omega) ⟨r0.m, pick_isSome.2 ⟨r0, hr0, hp0, rfl⟩⟩ fun s hs => ?_).mono ?_
          · obtain ⟨q, hq1, _, hq3⟩ := pick_isSome.1 hs
            rw [← hq3]
            have := (HSM.out.2 q hq1).1
            omega
          · rintro e w' ⟨ms, rfl, hri, hms, hB2⟩
            refine ⟨joinA ms, rfl, HSV.out _ ?_, hB2⟩
            show ServeAt l r.m r.body segs _ (some pt)
            rw [serveAt_some, hq]
            refine ⟨joinA ms, ⟨ms, hri, fun s => (hms s).trans ?_, rfl⟩, rfl⟩
            unfold toldR
            rw [pick_isSome, pick_isSome]
        clear hq
        obtain ⟨m, p, q, v, fs, body, cl⟩ := r
        unfold rquV rquC
        dsimp only at *
        go_enter Tryz.func9, Tryz.ntmps9
        go_wp2_with fail
        refine HSG.out.mono ?_
        rintro e W ⟨V1, b1, rfl, hT, hB⟩
        have s1 := HS0.out.below hB
        have HS1 := Lib.hid s1
        have HT1 := Lib.hid hT
        obtain ⟨c1, c2, c3, c4, hrow, hbel⟩ := s1
        clear hT hB
        clear hrow hbel
        go_wp2_with fail
        refine (HFD.out W V1 b1 HS1.out HT1.out).mono ?_
        rintro e W2 ⟨VF, gf, o', rfl, hF, hB⟩
        have s2 := HS1.out.below hB
        have HS2 := Lib.hid s2
        have HF2 := Lib.hid hF
        clear c1 c2 c3 c4 hF hB
        obtain ⟨c1, c2, c3, c4, hrow, hbel⟩ := s2
        clear hrow hbel
        go_wp2_with fail
        refine (HRO.out W2 HS2.out.bel).mono ?_
        rintro e W3 ⟨rfl, hB⟩
        have HS3 := Lib.hid (HS2.out.below hB)
        have HF3 := Lib.hid (HF2.out.below hB)
        clear c1 c2 c3 c4 hB
        unfold rtV rtC
        dsimp only
        go_wp2_with fail
        refine (HAL.out _ (HS3.out.bel.alloc HS3.out.bel.size _)).mono ?_
        rintro e W5 ⟨s, rfl, hx, hB⟩
        have HX := Lib.hid hx
        have s5 := (HS3.out.below ((Below.refl _ W3).alloc (Nat.le_refl _) _)).below hB
        have HS5 := Lib.hid s5
        have hrow : Row ((W5.alloc (.cells #[.string ⟨#[65, 108, 108, 111, 119]⟩, S s] 43)).alloc (.cells #[.string ⟨#[65, 108, 108, 111, 119]⟩, S s] 43)) (w.heap.size + 1) #[.int .i64 0, .slice none 0 0, .string ⟨#[]⟩] 29 := (s5.row.alloc _).alloc _
        have hnew : Row ((W5.alloc (.cells #[.string ⟨#[65, 108, 108, 111, 119]⟩, S s] 43)).alloc (.cells #[.string ⟨#[65, 108, 108, 111, 119]⟩, S s] 43)) (W5.heap.size + 1) #[.string ⟨#[65, 108, 108, 111, 119]⟩, S s] 43 := by
          have := row_new (W5.alloc (.cells #[.string ⟨#[65, 108, 108, 111, 119]⟩, S s] 43)) #[.string ⟨#[65, 108, 108, 111, 119]⟩, S s] 43
          rwa [alloc_size] at this
        have HB6 : Hid (Below w.heap.size w ((W5.alloc (.cells #[.string ⟨#[65, 108, 108, 111, 119]⟩, S s] 43)).alloc (.cells #[.string ⟨#[65, 108, 108, 111, 119]⟩, S s] 43))) := Lib.hid ((s5.bel.alloc s5.bel.size _).alloc (by rw [alloc_size]; have := s5.bel.size; omega) _)
        have HNEW := Lib.hid hnew
        have d0 := cell_of_row _ _ 0 _ _ (0, 0) hrow
        have d1 := cell_of_row _ _ 1 _ _ (0, 0) hrow
        have d2 := cell_of_row _ _ 2 _ _ (0, 0) hrow
        have f0 := hrow.frozen 0
        have f1 := hrow.frozen 1
        have f2 := hrow.frozen 2
        have HROW := Lib.hid hrow
        clear hrow hnew hx hB s5
        go_wp2
        refine bodyPost_ret (results_svW rfl _ _ (w.heap.size + 1) _ rfl (put3w_row HROW.out _ _ _) rfl) rfl ?_
        exact ServeV.done (X := ServeIs l m p body) (x := ⟨405, [(allowT, s)], noSuchT, 0⟩) HROW.out HB6.out HX.out (fau_row (n := 1) (c := 1) HNEW.out rfl rfl) (fun _ e => by have := HS5.out.row.lt; omega) rfl
      | some r1 =>
        rw [hq] at HRO
        have hr1 : r1 ∈ l := by
          unfold routeR at hq
          cases hp : pickR l pt r.m with
          | some x =>
            rw [hp, Option.some_or] at hq
            rw [← Option.some.inj hq]
            exact (pickR_some hp).1
          | none =>
            rw [hp, Option.none_or] at hq
            by_cases hh : r.m = headT
            · rw [if_pos hh] at hq; exact (pickR_some hq).1
            · rw [if_neg hh] at hq; cases hq
        have hkd := right_kind (HG.out.right r1 hr1)
        have HAN : Hid (∀ W V b o, FA W V (paramsF (segD pt) segs) b o → Calls Tryz.prog 22 #[rtV r1, S r.body, V] W fun e w' => e = .returned (rpuV (answerR r1 (paramsF (segD pt) segs) r.body).code (.slice none 0 0) (answerR r1 (paramsF (segD pt) segs) r.body).body) ∧ Below W.heap.size W w') := Lib.hid fun W V b o hA => by
          obtain ⟨r0, hr0, hp0⟩ := HPT.out
          have hpl : pt.length ≤ 200 := by rw [← hp0]; exact (HSM.out.2 r0 hr0).2.1
          obtain ⟨b1, b2⟩ := params_lines (segD pt) segs
          obtain ⟨b3, b4⟩ := seg_small hpl
          have b5 := HSL.out.1
          have b6 := HU.out.path
          exact answer_any hA (by omega) (by omega) r1 hkd r.body
        obtain ⟨hafs, hakd⟩ := answer_fs r1 (paramsF (segD pt) segs) r.body hkd
        have HX : Hid (ServeIs l r.m r.p r.body (answerR r1 (paramsF (segD pt) segs) r.body) ∧ (answerR r1 (paramsF (segD pt) segs) r.body).fs = [] ∧ (answerR r1 (paramsF (segD pt) segs) r.body).kind = r1.kind) := Lib.hid ⟨HSV.out _ (by
          show ServeAt l r.m r.body segs _ (some pt)
          rw [serveAt_some, hq]), hafs, hakd⟩
        clear hq hr1 hkd hafs hakd HSV
        generalize answerR r1 (paramsF (segD pt) segs) r.body = AN at *
        obtain ⟨q1, q2, q3, q4⟩ := r1
        obtain ⟨m, p, q, v, fs, body, cl⟩ := r
        unfold rquV rquC
        dsimp only at *
        go_enter Tryz.func9, Tryz.ntmps9
        go_wp2_with fail
        refine HSG.out.mono ?_
        rintro e W ⟨V1, b1, rfl, hT, hB⟩
        have s1 := HS0.out.below hB
        have HS1 := Lib.hid s1
        have HT1 := Lib.hid hT
        obtain ⟨c1, c2, c3, c4, hrow, hbel⟩ := s1
        clear hT hB
        clear hrow hbel
        go_wp2_with fail
        refine (HFD.out W V1 b1 HS1.out HT1.out).mono ?_
        rintro e W2 ⟨VF, gf, o', rfl, hF, hB⟩
        have s2 := HS1.out.below hB
        have HS2 := Lib.hid s2
        have HF2 := Lib.hid hF
        clear c1 c2 c3 c4 hF hB
        obtain ⟨c1, c2, c3, c4, hrow, hbel⟩ := s2
        clear hrow hbel
        go_wp2_with fail
        refine (HRO.out W2 HS2.out.bel).mono ?_
        rintro e W3 ⟨rfl, hB⟩
        have HS3 := Lib.hid (HS2.out.below hB)
        have HF3 := Lib.hid (HF2.out.below hB)
        clear c1 c2 c3 c4 hB
        unfold rtV rtC at *
        dsimp only at *
        have hb4 : Below W3.heap.size W3 (W3.alloc (.cells #[S q1, S q2, .int .i64 q3, S q4] 40)) := (Below.refl _ W3).alloc (Nat.le_refl _) _
        have hbox : Row (W3.alloc (.cells #[S q1, S q2, .int .i64 q3, S q4] 40)) W3.heap.size #[S q1, S q2, .int .i64 q3, S q4] 40 := row_new W3 _ _
        obtain ⟨Wq, hWq⟩ : ∃ Wq, Wq = (W3.alloc (.cells #[S q1, S q2, .int .i64 q3, S q4] 40)).drew := ⟨_, rfl⟩
        have hSq : SvS w ⟨m, p, q, v, fs, body, cl⟩ g gt Wq := by rw [hWq]; exact (HS3.out.below hb4).below (below_drew _)
        have hFq : FA Wq VF (paramsF (segD pt) segs) gf o' := by rw [hWq]; exact (HF3.out.below hb4).below (below_drew _)
        have hYq : YesS w W3 q1 q2 q4 q3 body Wq := by rw [hWq]; exact ⟨cell_of_row _ _ 0 _ _ (0, 0) hbox, cell_of_row _ _ 1 _ _ (0, 0) hbox, cell_of_row _ _ 2 _ _ (0, 0) hbox, cell_of_row _ _ 3 _ _ (0, 0) hbox, (HS3.out.below hb4).body⟩
        have HSQ := Lib.hid hSq
        have HYQ := Lib.hid hYq
        have HCQ := Lib.hid (HAN.out Wq VF gf o' hFq)
        have HNE : Hid (W3.heap.size ≠ w.heap.size + 1 ∧ w.heap.size ≠ w.heap.size + 1) := Lib.hid ⟨fun e => by have := HS3.out.row.lt; omega, by omega⟩
        have HWQ := Lib.hid hWq
        clear hb4 hbox hSq hFq hYq hWq
        go_wp2
        refine wp_region_noPanic ?_
        refine wp_region_held_drew (S := YesS w W3 q1 q2 q4 q3 body) (by kernel_rfl) (by rw [← HWQ.out]; exact HYQ.out) (fun _ => ?_)
        rw [← HWQ.out]
        refine take_at (i := 0) (d := some 54) (v := .agg #[S q1, S q2, .int .i64 q3, S q4]) rfl (by kernel_rfl) (by kernel_rfl) (by kernel_rfl) (fun _ _ _ h => h) (fun oi ho => ?_) HYQ.out ?_
        · obtain rfl := Option.some.inj ho
          exact Or.inl ⟨by rfl, fun wx hSw => by obtain ⟨hu1, hu2, hu3, hu4, hu5⟩ := hSw; go_simp⟩
        simp only [Act.put, List.setIfInBounds_toArray, List.set_cons_zero, List.set_cons_succ]
        refine take_at (i := 1) (d := some 55) (v := .pointer (some ⟨w.heap.size, 5, none⟩)) rfl (by kernel_rfl) (by kernel_rfl) (by kernel_rfl) (fun _ _ _ h => h) (fun oi ho => ?_) HYQ.out ?_
        · obtain rfl := Option.some.inj ho
          exact Or.inl ⟨by rfl, fun wx hSw => by obtain ⟨hu1, hu2, hu3, hu4, hu5⟩ := hSw; go_simp⟩
        simp only [Act.put, List.setIfInBounds_toArray, List.set_cons_zero, List.set_cons_succ]
        refine take_at (i := 2) (d := some 56) (v := S body) rfl (by kernel_rfl) (by kernel_rfl) (by kernel_rfl) (fun _ _ _ h => h) (fun oi ho => ?_) HYQ.out ?_
        · obtain rfl := Option.some.inj ho
          exact Or.inl ⟨by rfl, fun wx hSw => by obtain ⟨hu1, hu2, hu3, hu4, hu5⟩ := hSw; go_simp⟩
        simp only [Act.put, List.setIfInBounds_toArray, List.set_cons_zero, List.set_cons_succ]
        refine take_at (i := 3) (d := some 57) (v := VF) rfl (by kernel_rfl) (by kernel_rfl) (by kernel_rfl) (fun _ _ _ h => h) (fun oi ho => ?_) HYQ.out ?_
        · obtain rfl := Option.some.inj ho
          exact Or.inl ⟨by rfl, fun wx hSw => by obtain ⟨hu1, hu2, hu3, hu4, hu5⟩ := hSw; go_simp⟩
        simp only [Act.put, List.setIfInBounds_toArray, List.set_cons_zero, List.set_cons_succ]
        refine take_at (i := 5) (d := some 59) (v := .pointer (some ⟨W3.heap.size, 2, none⟩)) rfl (by kernel_rfl) (by kernel_rfl) (by kernel_rfl) (fun _ _ _ h => h) (fun oi ho => ?_) HYQ.out ?_
        · obtain rfl := Option.some.inj ho
          exact Or.inl ⟨by rfl, fun wx hSw => by obtain ⟨hu1, hu2, hu3, hu4, hu5⟩ := hSw; go_simp⟩
        simp only [Act.put, List.setIfInBounds_toArray, List.set_cons_zero, List.set_cons_succ]
        refine take_at (i := 6) (d := some 60) (v := .int .i64 q3) rfl (by kernel_rfl) (by kernel_rfl) (by kernel_rfl) (fun _ _ _ h => h) (fun oi ho => ?_) HYQ.out ?_
        · obtain rfl := Option.some.inj ho
          exact Or.inl ⟨by rfl, fun wx hSw => by obtain ⟨hu1, hu2, hu3, hu4, hu5⟩ := hSw; go_simp⟩
        simp only [Act.put, List.setIfInBounds_toArray, List.set_cons_zero, List.set_cons_succ]
        refine ready_call (i := 4) (d := some 58) (f := 22) (args := #[.agg #[S q1, S q2, .int .i64 q3, S q4], S body, VF]) rfl (by kernel_rfl) (fun oi ho => ?_) ?_
        · obtain rfl := Option.some.inj ho
          exact ⟨by rfl, by go_simp⟩
        refine (HCQ.out).mono ?_
        rintro e W5 ⟨rfl, hB5⟩
        have hS5 := HSQ.out.below hB5
        have HY5 := Lib.hid (HYQ.out.below hB5)
        have HS5 := Lib.hid hS5
        have hrow := hS5.row
        have d0 := cell_of_row _ _ 0 _ _ (0, 0) hrow
        have d1 := cell_of_row _ _ 1 _ _ (0, 0) hrow
        have d2 := cell_of_row _ _ 2 _ _ (0, 0) hrow
        have f0 := hrow.frozen 0
        have f1 := hrow.frozen 1
        have f2 := hrow.frozen 2
        have HROW := Lib.hid hrow
        have HY6 : Hid (YesS w W3 q1 q2 q4 q3 body (((W5.setCell ⟨w.heap.size + 1, 0, none⟩ (.int .i64 AN.code)).setCell ⟨w.heap.size + 1, 1, none⟩ (.slice none 0 0)).setCell ⟨w.heap.size + 1, 2, none⟩ (S AN.body))) := Lib.hid (HY5.out.put HNE.out.1 HNE.out.2 _ _ _)
        clear hS5 hrow hB5
        refine ⟨_, rfl, HY5.out, ?_⟩
        simp only [Act.put, List.setIfInBounds_toArray, List.set_cons_zero, List.set_cons_succ]
        refine ready_skip (i := 7) (d := none) (w' := ((W5.setCell ⟨w.heap.size + 1, 0, none⟩ (.int .i64 AN.code)).setCell ⟨w.heap.size + 1, 1, none⟩ (.slice none 0 0)).setCell ⟨w.heap.size + 1, 2, none⟩ (S AN.body)) rfl (by kernel_rfl) (fun oi ho => ?_) HY6.out ?_
        · obtain rfl := Option.some.inj ho
          exact ⟨by rfl, by unfold rpuV rpuC; go_simp⟩
        refine take_at (i := 8) (d := some 5) (v := .int .i64 q3) rfl (by kernel_rfl) (by kernel_rfl) (by kernel_rfl) (fun _ _ _ h => h) (fun oi ho => ?_) HY6.out ?_
        · obtain rfl := Option.some.inj ho
          exact Or.inl ⟨by rfl, fun wx hSw => by go_simp⟩
        simp only [Act.put, List.setIfInBounds_toArray, List.set_cons_zero, List.set_cons_succ]
        refine wpAnyH_done (by kernel_rfl) ?_ _
        refine NoPanic.normal ?_
        go_wp2
        refine bodyPost_ret (results_svW rfl _ _ (w.heap.size + 1) _ rfl (put3w_row HROW.out _ _ _) rfl) rfl ?_
        exact ServeV.done (X := ServeIs l m p body) (x := AN) HROW.out HS5.out.bel HX.out.1 (Vx := .slice none 0 0) (bx := 0) (ox := 0) (by rw [HX.out.2.1]; exact fau_nil W5 none 0) (fun h => absurd HX.out.2.1 h) (by rw [HX.out.2.2]; rfl)
end Go.Proofs.YtendejpkdjkmnaaGreatDoor
/- The landed package of routers does what is asked of it. -/
namespace Go.Proofs.YtendejpkdjkmnaaGreatDoor
open Go.RowKit
attribute [local go_sem] store_one S_match S_store

set_option maxRecDepth 100000 in
set_option maxHeartbeats 1000000 in
theorem routes_any {w : World} {F : Nat → Prop} {g : Nat} {l : List Rt} (h : rfU w F g l) (hs : SmallRo l) : Calls Tryz.prog 11 #[.pointer (some ⟨g, 0, none⟩)] w fun e w' => Below w.heap.size w w' ∧ ∃ V b o, e = .returned V ∧ RoA w' V l b o := by
  obtain ⟨gt, T, ents, Vr, gr, hu, -⟩ := h
  have c0 := cell_of_row w g 0 _ _ (0, 0) hu.row
  have c1 : w.cell? ⟨g, 0, none⟩ = some Vr := c0
  have HC := Lib.hid (clone14_any Vr l gr 0 w hu.copy (by have := hs.1; omega))
  clear c0 hu hs
  go_enter Tryz.func11, Tryz.ntmps11
  go_wp2_with fail
  refine HC.out.mono ?_
  rintro e W ⟨V', rfl, hg, hB⟩
  obtain ⟨b, hA⟩ := hg.roa
  have HA := Lib.hid hA
  have HB := Lib.hid hB
  clear hg hA hB
  go_wp2
  go_ret
  exact ⟨HB.out, V', b, 0, rfl, HA.out⟩
set_option maxRecDepth 100000 in
theorem routes_nil (w : World) : Calls Tryz.prog 11 #[.pointer none] w fun e w' => Below w.heap.size w w' ∧ ∃ V b o, e = .returned V ∧ RoA w' V [] b o := by
  go_enter Tryz.func11, Tryz.ntmps11
  go_wp2
  go_ret
  exact ⟨Below.refl _ _, _, 0, 0, rfl, roa_nil w⟩
theorem routerF {w : World} (hsh : w.ShapedOpen Tryz.prog) : RouterF w rfU where
  lt := fun ⟨_, _, _, _, _, hu, hF⟩ k hk => hu.lt k ((hF k).1 hk)
  same := fun ⟨gt, T, ents, Vr, gr, hu, hF⟩ hs hb => ⟨gt, T, ents, Vr, gr, hu.same hs fun k hk => hb k ((hF k).2 hk), hF⟩
  right := fun r W hB h1 h2 h3 => rright_any r W (by omega) h2 (by omega) ((max_of hsh).below hB)
  new := fun l V b o W hB hA hs => (new_any hA hs ((max_of hsh).below hB)).mono fun _ _ h => h
  serve := fun l g F r V b o W hB h hs hg hu _ => by
    obtain ⟨gt, T, ents, Vr, gr, hr, -⟩ := h
    refine (serve_any hr hs hg r hu V ((max_of hsh).below hB)).mono ?_
    rintro e w' ⟨h1, x, Vx, bx, ox, h2, h3, h4⟩
    exact ⟨h1, x, Vx, bx, ox, h2, h3, h4⟩
  served0 := fun r V b o W hB _ _ => (serve_nil r V W).mono fun e w' h => by
    obtain ⟨h1, x, Vx, bx, ox, h2, h3, h4⟩ := h
    subst h2
    exact ⟨h1, Vx, bx, ox, h3, h4⟩
  routes := fun l g F W _ h hs => routes_any h hs
  routes0 := fun W _ => routes_nil W
end Go.Proofs.YtendejpkdjkmnaaGreatDoor
/- Two facts of the program. -/
namespace Go.Proofs.YtendejpkdjkmnaaGreatDoor
open Go.ChangeShapes Go.WideShapes Go.ChangeAt Go.RowKit
theorem Tryz.own : ownKnob Tryz.prog.godebug = none := by kernel_rfl
theorem Tryz.laidOut : laidOutB Tryz.prog = true := by kernel_rfl
end Go.Proofs.YtendejpkdjkmnaaGreatDoor
/- A lifted proof that is handed both: what is listed lies as it was laid, and the first world's shape. -/
namespace Go.Proofs.YtendejpkdjkmnaaGreatDoor
open Go
variable {H : Type} {enc : TypeId × Value → H}
theorem returns_both {a : Assume} {C : Checked} {os : Os} {f : FuncId} {fn : Func} {s : ChangeSpec} {conds : List PathCond} {apart fresh handsOn again : Bool} {X : World → Array Value → Prop}
    (hX : ∀ (w w' : World) (args : Array Value), w.heap = w'.heap → X w args → X w' args)
    (own : ownKnob C.prog.godebug = none) (started : os.Started) (noInit : C.prog.inits.idxOf? f = none) (hfn : C.prog.funcs[f]? = some fn)
    (witness : ∃ (w : World) (tape : Tape) (i : Input), w.os = os ∧ (w.forCall tape i).Shaped C.prog ∧ i.vars = [] ∧ Input.okWide C.prog (w.forCall tape i) .any w.heap.size f i ∧
      ((s.pre enc C.prog fn conds apart (w.forCall tape i).memory i.args ∧ X (w.forCall tape i).memory i.args) ∧ sizedMet enc C.prog fn (OpenSpec.ofChange s) apart (w.forCall tape i).memory i.args) ∧ a.holds C.prog (lone (Frame.enter C.prog f i.args .normal) [] (w.forCall tape i)))
    (contract : ∀ (W : World) (base : Nat) (args : Array Value) (ds gs : List (DataW H)) (before : List MemPlace),
      (∀ (j : Nat) t v, fn.params[j]? = some t → args[j]? = some v → Value.okWide C.prog W .any base t v) →
      DataW.Whole enc C.prog fn.params.toList s.vars apart W args.toList ds gs before →
      conds.all (PathCond.test C.prog ⟨fn.params.toList, ds, s.plain.varTypes C.prog, gs⟩) = true →
      (DataW.weightsEach C.prog (fn.params.toList ++ s.plain.varTypes C.prog) (ds ++ gs)).all (· ≤ reachBytes) = true → X W args →
      W.ShapedOpen C.prog →
      a.holds C.prog (lone (Frame.enter C.prog f args .normal) [] W) →
      Calls C.prog f args W fun e W' => ∃ v, e = .returned v ∧ s.post enc C.prog fn apart fresh handsOn again W args v W') :
    ReturnsInHanded a C os f .any (fun w args => (s.pre enc C.prog fn conds apart w args ∧ X w args) ∧ sizedMet enc C.prog fn (OpenSpec.ofChange s) apart w args) (s.post enc C.prog fn apart fresh handsOn again) := by
  refine returnsInHanded_of_calls own started noInit witness ?_
  intro w tape i _ hsh _ hok hpre hholds
  obtain ⟨_, _, _, fn', hfn', _, _, _, _, hval⟩ := hok
  have e : fn' = fn := Option.some.inj (hfn'.symm.trans hfn)
  subst e
  obtain ⟨⟨⟨ds, gs, before, hw, hc⟩, hx⟩, hz⟩ := hpre
  have hw' := DataW.Whole.of_heap (w' := w.forCall tape i) (by rfl) hw
  refine (contract (w.forCall tape i) w.heap.size i.args ds gs before hval hw' hc (hz.weights hw) (hX _ _ _ (by rfl) hx) hsh hholds).mono fun e W' ⟨v, he, hp⟩ => ?_
  subst he
  exact ChangeSpec.post_blind hp
end Go.Proofs.YtendejpkdjkmnaaGreatDoor
