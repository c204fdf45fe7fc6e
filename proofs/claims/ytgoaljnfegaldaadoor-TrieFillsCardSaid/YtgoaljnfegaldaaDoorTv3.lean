/- The landed taken walked. (mktv.py writes it.) -/
import Derived.Test.YtgoaljnfegaldaaDoorTv1
import Derived.Test.YtgoaljnfegaldaaDoorFl
import Derived.Shelf.RegionOpen
namespace Go.Proofs.YtgoaljnfegaldaaDoor
open Go.RowKit Go.Shelf
attribute [local go_sem] store_one S_match S_store eguard_BN nguard_BN B_eqlN B_neqN

abbrev Fts := List (Txt × Txt)
/-- A row of fields of one's own. -/
def FT (base : Nat) (V : Value) (fs : Fts) (w : World) : Prop := w.ownsRow base 41 2 V fs.length (fcells fs)
theorem FT.fa {base : Nat} {V : Value} {fs : Fts} {w : World} (h : FT base V fs w) : ∃ g, FA w V fs g 0 ∧ (fs = [] ∨ (base ≤ g ∧ g < w.heap.size)) := by
  obtain ⟨g, h1, h2⟩ := flds_at h
  exact ⟨g, h1.fa, h2⟩
theorem ft_nil (base : Nat) (w : World) : FT base (.slice none 0 0) [] w := ⟨rfl, .inl ⟨rfl, rfl⟩⟩
theorem infoFt : ∃ i, Tryd.prog.info? 41 = some i ∧ i.zero = some (.agg #[.string ⟨#[]⟩, .string ⟨#[]⟩]) ∧ i.size = 2 ∧ i.bytes = 32 := by
  have h : (Tryd.prog.info? 41).map (fun i => (i.zero, i.size, i.bytes)) = some (some (.agg #[.string ⟨#[]⟩, .string ⟨#[]⟩]), 2, 32) := by kernel_rfl
  cases hi : Tryd.prog.info? 41 with
  | none => rw [hi] at h; cases h
  | some i =>
    rw [hi] at h
    simp only [Option.map_some, Option.some.injEq, Prod.mk.injEq] at h
    exact ⟨i, rfl, h.1, h.2.1, h.2.2⟩
theorem run_addT {W : World} {base : Nat} {V : Value} {fs : Fts} (h : FT base V fs W) (hl : fs.length ≤ 1000) (hb : base ≤ W.heap.size) (f : Txt × Txt) (ty : TypeId) :
    ∃ a c W', (Builtin.append_ #[30, 30] ty #[V, .slice (some ⟨W.heap.size, 0, none⟩) 1 1]).run Tryd.prog (W.alloc (.cells #[S f.1, S f.2] 41)) = .ok (.slice a (fs.length + 1) c) W' ∧ FT base (.slice a (fs.length + 1) c) (fs ++ [f]) W' ∧ Below base W W' := by
  obtain ⟨i, hi, hz, hsz, hby⟩ := infoFt
  have h0 := h
  unfold FT at h
  have hr := row_new W #[S f.1, S f.2] 41
  have hal : (W.alloc (.cells #[S f.1, S f.2] 41)).ownsRow base 41 2 V fs.length (fcells fs) := h.alloc _
  obtain ⟨V', W', hrun, hown, hgr, _, _⟩ := run_append_own_at (P := Tryd.prog) (w := W.alloc (.cells #[S f.1, S f.2] 41)) base 30 ty 41 i _ 2 32 Tryd.underlying30 hi hz hsz hby rfl (by decide)
    V fs.length (fcells fs) hal ⟨W.heap.size, 0, none⟩ 1 1 [S f.1, S f.2] rfl (fun j u hu => by
      rw [Addr.add_lit]
      rw [cell_of_row _ _ _ _ _ _ hr]
      simpa using hu) (fun u hu => by
      simp only [List.mem_cons, List.not_mem_nil, or_false] at hu
      rcases hu with rfl | rfl <;> rfl)
    (by simp only [maxLen]; omega) (by omega) (by rw [alloc_size]; omega)
  have hF : FT base V' (fs ++ [f]) W' := by
    unfold FT
    rw [List.length_append, List.length_singleton, fcells_snoc]; exact hown
  obtain ⟨g, hA, -⟩ := hF.fa
  obtain ⟨a, c, hv⟩ := hA.form
  rw [List.length_append, List.length_singleton] at hv
  subst hv
  refine ⟨a, c, W', hrun, hF, ?_⟩
  exact below_grown ((Below.refl _ _).alloc hb _) hgr (fun k hk => (World.ownsRow.lt h0 k hk).1) (by rw [alloc_size]; omega)
/-- What is behind the first i texts of a row. -/
theorem TA.from {w : World} {V : Value} {l : List Txt} {b o : Nat} (h : TA w V l b o) (i : Nat) (hi : i < l.length) :
    ∃ c, (∀ W, (Instr.slice 22 V (some (.int .i64 (i : Int))) none none).run Tryd.prog W = .ok (.slice (some ⟨b, o + i, none⟩) (l.length - i) c) W) ∧ l.length - i ≤ c := by
  rcases h.cap with h0 | ⟨c, hv, hc⟩
  · rw [h0] at hi; cases hi
  · subst hv
    have h1 : i ≤ l.length := by omega
    have hz := Tryd.sizeOf9
    refine ⟨c - i, fun W => ?_, by omega⟩
    have h3 : ¬ c = i := by omega
    simp [Instr.slice, run_underlying Tryd.underlying22, Instr.sliceBounds, run_sliceBound, Result.andThen, hz, h1, Addr.add, h3]
theorem joinP_is (x : Txt) (p : List Txt) : joinP x p = Lib.join (x :: p) [47] := by
  rw [Lib.join_cons]
  unfold joinP Lib.joinTail
  rw [List.flatMap_def]; rfl
theorem join_any {w : World} {b o c n : Nat} {l : List Txt} {V : Value} (h : TA w V l b o) (i : Nat) (x : Txt) (hx : l[i]? = some x) (hn : n = l.length - i) (hc : n ≤ c) (hl : l.length ≤ 12) (he : ∀ s ∈ l, s.length ≤ 40) :
    Calls Tryd.prog 37 #[.slice (some ⟨b, o + i, none⟩) n c, .string ⟨#[47]⟩] w fun e w' => e = .returned (S (joinP x (l.drop (i + 1)))) ∧ Below w.heap.size w w' := by
  have hd := (drop_at hx).1
  have hil := (List.getElem?_eq_some_iff.1 hx).1
  obtain ⟨q, hq⟩ : ∃ q : List ByteArray, q = (l.drop i).map fun s => ⟨s.toArray⟩ := ⟨_, rfl⟩
  have hql : q.length = n := by rw [hq, List.length_map, List.length_drop, hn]
  have hqm : q.map (·.data.toList) = l.drop i := by
    rw [hq, List.map_map]
    exact List.map_id _
  have hcell : ∀ (j : Nat) y, q[j]? = some y → w.cell? ⟨b, o + i + j, none⟩ = some (.string y) := fun j y hy => by
    rw [hq, List.getElem?_map, List.getElem?_drop] at hy
    cases hlj : l[i + j]? with
    | none => rw [hlj] at hy; cases hy
    | some s =>
      rw [hlj] at hy
      obtain rfl := Option.some.inj hy
      rw [Nat.add_assoc]
      exact h.cell (i + j) s hlj
  have hlen : (Lib.join (q.map (·.data.toList)) (⟨#[47]⟩ : ByteArray).data.toList).length ≤ 140737488355328 := by
    rw [hqm, hd]
    show (Lib.join (x :: l.drop (i + 1)) [47]).length ≤ _
    rw [← joinP_is]
    have hx40 := he x (List.mem_of_getElem? hx)
    have hr : ∀ r : List Txt, (∀ s ∈ r, s.length ≤ 40) → (r.flatMap fun y => 47 :: y).length ≤ 41 * r.length := by
      intro r
      induction r with
      | nil => intro _; simp
      | cons s r ih =>
        intro hs
        have h1 := hs s (List.mem_cons_self ..)
        have h2 := ih fun t ht => hs t (List.mem_cons_of_mem _ ht)
        rw [List.flatMap_cons, List.length_append, List.length_cons, List.length_cons]
        omega
    have := hr (l.drop (i + 1)) fun s hs => he s (List.mem_of_mem_drop hs)
    unfold joinP
    rw [List.length_append]
    rw [List.length_drop] at this
    omega
  have hb := World.block_lt_of_cell? w _ (h.cell i x hx)
  have hJ := Tryd.strings_Join b (o + i) c q ⟨#[47]⟩ w hcell hb (by omega) (by omega) hlen
  rw [hql] at hJ
  refine hJ.mono ?_
  rintro e w' ⟨rfl, hB⟩
  refine ⟨?_, hB⟩
  rw [hqm, hd, joinP_is]
  rfl
/-- What is taken so far; W: where the row of segments was made. -/
structure TkAt (W : World) (l path : List Txt) (acc : Fts) (va : Value) (i : Nat) (wr : World) : Prop where
  own : FT W.heap.size va acc wr
  few : acc.length ≤ i
  bel : Below W.heap.size W wr
  ok : paramsF l path = acc ++ paramsF (l.drop i) (path.drop i)
  fits : i < l.length → fitsF (l.drop i) (path.drop i) = true
section
variable {W wr w' : World} {l path : List Txt} {acc : Fts} {va va' : Value} {i : Nat} {s x : Txt}
theorem TkAt.lit (h : TkAt W l path acc va i wr) (hs : l[i]? = some s) (hk : kindS s = 0) : TkAt W l path acc va (i + 1) wr := by
  obtain ⟨x, hx, hf⟩ := fits_drop hs (h.fits (List.getElem?_eq_some_iff.1 hs).1)
  refine ⟨h.own, Nat.le_succ_of_le h.few, h.bel, h.ok.trans ?_, fun _ => hf (by rw [hk]; decide)⟩
  rw [params_at hs hx, hk, if_neg (by decide), if_neg (by decide)]
theorem TkAt.par (h : TkAt W l path acc va i wr) (hs : l[i]? = some s) (hx : path[i]? = some x) (hk : kindS s = 1) (ho : FT W.heap.size va' (acc ++ [(s.drop 1, x)]) w') (hb : Below W.heap.size wr w') : TkAt W l path (acc ++ [(s.drop 1, x)]) va' (i + 1) w' := by
  obtain ⟨x', hx', hf⟩ := fits_drop hs (h.fits (List.getElem?_eq_some_iff.1 hs).1)
  refine ⟨ho, by have := h.few; rw [List.length_append, List.length_singleton]; omega, h.bel.trans hb, h.ok.trans ?_, fun _ => hf (by rw [hk]; decide)⟩
  rw [params_at hs hx, hk, if_neg (by decide), if_pos rfl, List.append_assoc]
  rfl
theorem TkAt.rst (h : TkAt W l path acc va i wr) (hs : l[i]? = some s) (hx : path[i]? = some x) (hk : kindS s = 2) (hl : l.length = i + 1) (ho : FT W.heap.size va' (acc ++ [(s.drop 1, joinP x (path.drop (i + 1)))]) w') (hb : Below W.heap.size wr w') :
    TkAt W l path (acc ++ [(s.drop 1, joinP x (path.drop (i + 1)))]) va' (i + 1) w' := by
  refine ⟨ho, by have := h.few; rw [List.length_append, List.length_singleton]; omega, h.bel.trans hb, h.ok.trans ?_, fun hl' => by omega⟩
  have hd : l.drop (i + 1) = [] := List.drop_eq_nil_of_le (by omega)
  rw [params_at hs hx, hk, if_pos rfl, hd]
  simp [paramsF]
end
theorem below_drew (w : World) : Below w.heap.size w w.drew := ⟨rfl, rfl, rfl, Nat.le_refl _, fun _ _ => rfl⟩
theorem FT.below {base : Nat} {V : Value} {fs : Fts} {w w' : World} (h : FT base V fs w) (hb : Below w.heap.size w w') : FT base V fs w' := own_below h hb
set_option maxRecDepth 100000 in
set_option maxHeartbeats 2000000 in
theorem taken_any (s : Txt) (l path : List Txt) (Vp : Value) (bp op : Nat) (hsl : s.length ≤ 200) (hl : segsF s = some l) (hfit : fitsF l path = true) (hP : path.length ≤ 12 ∧ ∀ x ∈ path, x.length ≤ 40) (w : World) (hm : MaxAt w) (hT : TA w Vp path bp op) :
    Calls Tryd.prog 26 #[S s, Vp] w fun e w' => ∃ VF gf, e = .returned VF ∧ FA w' VF (paramsF l path) gf 0 ∧ (paramsF l path = [] ∨ (w.heap.size ≤ gf ∧ gf < w'.heap.size)) ∧ Below w.heap.size w w' := by
  obtain ⟨h0, hcut, hok⟩ := segsF_head hl
  have hne : s ≠ [] := by rintro rfl; cases h0
  have hTI := tidy_ok l [] hok
  have HSG := Lib.hid (segments_any s hne (by omega) w hm)
  rw [← hcut] at HSG
  have hlen : l.length ≤ 201 := by rw [hcut]; have := cutS_len s; omega
  obtain ⟨N, hN⟩ : ∃ N, N = l.length := ⟨_, rfl⟩
  rw [← hN] at hlen
  have HN := Lib.hid hN
  have HPT := Lib.hid hT
  have HPO := Lib.hid hP
  have HTI := Lib.hid hTI
  have HFT := Lib.hid hfit
  clear h0 hcut hok hne hTI hsl hl hfit hP hm hT hN
  go_enter Tryd.func26, Tryd.ntmps26
  go_wp2_with fail
  refine HSG.out.mono ?_
  rintro e W ⟨V, b, rfl, hT, hB, -⟩
  have hlV := fun w' => hT.len 3 w'
  rw [← HN.out] at hlV
  have HT := Lib.hid hT
  have HB := Lib.hid hB
  have HI : Hid (TkAt W l path [] (.slice none 0 0) 0 W) := Lib.hid ⟨ft_nil _ W, Nat.le_refl _, Below.refl _ _, rfl, fun _ => HFT.out⟩
  clear hT hB HSG
  go_wp2
  go_loopw [5, 11] (fun av iv wr => ∃ (i : Nat) (a : Option Addr) (n c : Nat), i ≤ N ∧ av = .slice a n c ∧ iv = .int .i64 (i : Int) ∧ Hid (∃ acc, n = acc.length ∧ TkAt W l path acc (.slice a n c) i wr)) (fun _ iv _ => N - (intOf iv).toNat)
  case atStart => exact ⟨0, none, 0, 0, Nat.zero_le _, rfl, rfl, Lib.hid ⟨[], rfl, HI.out⟩⟩
  case round =>
    obtain ⟨i, a, n, c, hi, rfl, rfl, HR0⟩ := hrel
    obtain ⟨acc, hacc, hR⟩ := HR0.out
    by_cases hlt : i < N
    case neg =>
      obtain rfl : i = N := by omega
      have g1 : decide ((i : Int) < (i : Int)) = false := decide_eq_false (by omega)
      have HE : Hid (FT W.heap.size (.slice a n c) (paramsF l path) wr ∧ Below W.heap.size W wr) := Lib.hid (by
        have h1 := hR.ok
        rw [HN.out, List.drop_length, show paramsF [] (path.drop l.length) = [] by simp [paramsF], List.append_nil] at h1
        rw [h1]; exact ⟨hR.own, hR.bel⟩)
      clear hR hacc HR0
      go_wp2
      go_ret
      obtain ⟨g, h1, h2⟩ := HE.out.1.fa
      exact ⟨_, g, rfl, h1, h2.imp id fun h => ⟨by have := HB.out.size; omega, h.2⟩, HB.out.trans (HE.out.2.mono HB.out.size)⟩
    case pos =>
      have g1 : decide ((i : Int) < (N : Int)) = true := decide_eq_true (by omega)
      have hw1 : IntKind.i64.wrap ((i : Int) + 1) = (i : Int) + 1 := by rw [IntKind.wrap_i64]; omega
      obtain ⟨x, hx⟩ : ∃ x, l[i]? = some x := ⟨l[i]'(by have := HN.out; omega), List.getElem?_eq_getElem _⟩
      obtain ⟨hxn, hlast⟩ := tidy_at HTI.out hx
      obtain ⟨p, hp, -⟩ := fits_drop hx (hR.fits (by have := HN.out; omega))
      have hpl : i < path.length := (List.getElem?_eq_some_iff.1 hp).1
      have hix := fun w' => HT.out.index i (by have := HN.out; omega) w'
      have hcell : wr.cell? ⟨b, 0 + i, none⟩ = some (S x) := (HT.out.below hR.bel).cell i x hx
      obtain ⟨q, hq⟩ : ∃ q, q = 0 + i := ⟨_, rfl⟩
      rw [← hq] at hix hcell
      obtain ⟨cc, r, rfl⟩ : ∃ c r, x = c :: r := by
        cases x with
        | nil => exact absurd rfl hxn
        | cons c r => exact ⟨c, r, rfl⟩
      have hi0 : ∀ w, (Instr.index 9 (S (cc :: r)) (.int .i64 0)).run Tryd.prog w = .ok (B cc) w := fun w => index_S Tryd.underlying9 (cc :: r) 0 cc rfl w
      have hsl : ∀ W, (Instr.slice 9 (S (cc :: r)) (some (.int .i64 1)) none none).run Tryd.prog W = .ok (S r) W := fun W => slice_drop (P := Tryd.prog) Tryd.underlying9 (cc :: r) 1 (by simp) W
      have hPT : TA wr Vp path bp op := HPT.out.below (HB.out.trans (hR.bel.mono HB.out.size))
      have hn : n ≤ 201 := by have := hR.few; omega
      have HPT2 := Lib.hid hPT
      have HR := Lib.hid hR
      have HX := Lib.hid (And.intro hx hp)
      have HLA := Lib.hid (And.intro hlast hpl)
      have hszW := hR.bel.size
      have HSZ := Lib.hid hszW
      have HAC := Lib.hid hacc
      rcases kind_cases cc r with ⟨rfl, hk⟩ | ⟨_, g2, _, rfl, hk⟩ | ⟨_, g2, _, _, g3, _, hk⟩
      · obtain ⟨Wq, hWq⟩ : ∃ W, W = wr.drew := ⟨_, rfl⟩
        have hBq : Below wr.heap.size wr Wq := by rw [hWq]; exact below_drew wr
        have hBWq : Below W.heap.size wr Wq := by rw [hWq]; exact (below_drew wr).mono hszW
        obtain ⟨a7, c7, W7, hr7, hF7, hB7⟩ := run_addT (hR.own.below hBq) (by omega) (by have := hBq.size; omega) (r, p) 30
        rw [← hacc] at hr7 hF7
        have HE : Hid (∃ acc', n + 1 = acc'.length ∧ TkAt W l path acc' (.slice a7 (n + 1) c7) (i + 1) W7) := Lib.hid ⟨acc ++ [(r, p)], by rw [List.length_append, List.length_singleton, hacc], hR.par hx hp hk hF7 (hBWq.trans hB7)⟩
        have hixp : ∀ w', (Instr.indexAt 22 Vp (.int .i64 (i : Int))).run Tryd.prog w' = .ok (.pointer (some ⟨bp, op + i, none⟩)) w' := fun w' => hPT.index i hpl w'
        have hat : ∀ W', Below wr.heap.size wr W' → W'.cell? ⟨bp, op + i, none⟩ = some (S p) := fun W' h => (HPT2.out.below h).cell i p HX.out.2
        have s1 := hat wr (Below.refl _ _)
        have hSQ := hat Wq hBq
        obtain ⟨q2, hq2⟩ : ∃ q, q = op + i := ⟨_, rfl⟩
        rw [← hq2] at hixp s1 hSQ
        have hr7' : (Builtin.append_ #[30, 30] 30 #[.slice a n c, .slice (some ⟨Wq.heap.size, 0, none⟩) 1 1]).run Tryd.prog (Wq.alloc (.cells #[S r, S p] 41)) = .ok (.slice a7 (n + 1) c7) W7 := hr7
        have HR7 := Lib.hid hr7'
        have HSQ := Lib.hid hSQ
        have HS7 : Hid (W7.cell? ⟨bp, q2, none⟩ = some (S p)) := Lib.hid (by rw [hq2]; exact (HPT.out.below (HB.out.trans ((hR.bel.trans (hBWq.trans hB7)).mono HB.out.size))).cell i p hp)
        generalize S (58 :: r) = X at *
        clear hr7 hr7' hF7 hB7 hBq hBWq hat hSQ hR hacc HR0 hPT hlast hp hx hxn hk hq hq2 hn hszW hpl
        go_wp2
        refine wp_region_noPanic ?_
        refine wp_region_held_drew (S := fun wx => wx.cell? ⟨bp, q2, none⟩ = some (S p)) (by kernel_rfl) s1 (fun _ => ?_)
        rw [← hWq]
        clear hWq s1
        refine take_at (i := 0) (d := some 20) (v := .slice a n c) rfl (by kernel_rfl) (by kernel_rfl) (by kernel_rfl) (fun _ _ _ h => h) (fun oi ho => ?_) HSQ.out ?_
        · obtain rfl := Option.some.inj ho
          exact Or.inl ⟨by rfl, fun wx hSw => by go_simp⟩
        simp only [Act.put, List.setIfInBounds_toArray, List.set_cons_zero, List.set_cons_succ]
        refine take_at (i := 1) (d := some 21) (v := X) rfl (by kernel_rfl) (by kernel_rfl) (by kernel_rfl) (fun _ _ _ h => h) (fun oi ho => ?_) HSQ.out ?_
        · obtain rfl := Option.some.inj ho
          exact Or.inl ⟨by rfl, fun wx hSw => by go_simp⟩
        simp only [Act.put, List.setIfInBounds_toArray, List.set_cons_zero, List.set_cons_succ]
        refine take_at (i := 2) (d := some 22) (v := S r) rfl (by kernel_rfl) (by kernel_rfl) (by kernel_rfl) (fun _ _ _ h => h) (fun oi ho => ?_) HSQ.out ?_
        · obtain rfl := Option.some.inj ho
          exact Or.inl ⟨by rfl, fun wx hSw => by go_simp⟩
        simp only [Act.put, List.setIfInBounds_toArray, List.set_cons_zero, List.set_cons_succ]
        refine take_at (i := 3) (d := some 23) (v := Vp) rfl (by kernel_rfl) (by kernel_rfl) (by kernel_rfl) (fun _ _ _ h => h) (fun oi ho => ?_) HSQ.out ?_
        · obtain rfl := Option.some.inj ho
          exact Or.inl ⟨by rfl, fun wx hSw => by go_simp⟩
        simp only [Act.put, List.setIfInBounds_toArray, List.set_cons_zero, List.set_cons_succ]
        refine take_at (i := 4) (d := some 24) (v := .int .i64 (i : Int)) rfl (by kernel_rfl) (by kernel_rfl) (by kernel_rfl) (fun _ _ _ h => h) (fun oi ho => ?_) HSQ.out ?_
        · obtain rfl := Option.some.inj ho
          exact Or.inl ⟨by rfl, fun wx hSw => by go_simp⟩
        simp only [Act.put, List.setIfInBounds_toArray, List.set_cons_zero, List.set_cons_succ]
        refine take_at (i := 5) (d := some 25) (v := .pointer (some ⟨bp, q2, none⟩)) rfl (by kernel_rfl) (by kernel_rfl) (by kernel_rfl) (fun _ _ _ h => h) (fun oi ho => ?_) HSQ.out ?_
        · obtain rfl := Option.some.inj ho
          exact Or.inl ⟨by rfl, fun wx hSw => by go_simp⟩
        simp only [Act.put, List.setIfInBounds_toArray, List.set_cons_zero, List.set_cons_succ]
        refine take_at (i := 6) (d := some 26) (v := S p) rfl (by kernel_rfl) (by kernel_rfl) (by kernel_rfl) (fun _ _ _ h => h) (fun oi ho => ?_) HSQ.out ?_
        · obtain rfl := Option.some.inj ho
          exact Or.inl ⟨by rfl, fun wx hSw => by go_simp⟩
        simp only [Act.put, List.setIfInBounds_toArray, List.set_cons_zero, List.set_cons_succ]
        refine take_at (i := 7) (d := some 27) (v := .agg #[S r, S p]) rfl (by kernel_rfl) (by kernel_rfl) (by kernel_rfl) (fun _ _ _ h => h) (fun oi ho => ?_) HSQ.out ?_
        · obtain rfl := Option.some.inj ho
          exact Or.inl ⟨by rfl, fun wx hSw => by go_simp⟩
        simp only [Act.put, List.setIfInBounds_toArray, List.set_cons_zero, List.set_cons_succ]
        have HSA : Hid ((Wq.alloc (.cells #[S r, S p] 41)).cell? ⟨bp, q2, none⟩ = some (S p)) := Lib.hid (by
          rw [(row_below (w := Wq) (.cells #[S r, S p] 41)).cell (World.block_lt_of_cell? Wq _ HSQ.out)]; exact HSQ.out)
        refine ready_value (i := 8) (d := some 28) (v := .slice (some ⟨Wq.heap.size, 0, none⟩) 1 1) (w' := Wq.alloc (.cells #[S r, S p] 41)) rfl (by kernel_rfl) (fun oi ho => ?_) HSA.out ?_
        · obtain rfl := Option.some.inj ho
          exact ⟨by rfl, by go_simp⟩
        simp only [Act.put, List.setIfInBounds_toArray, List.set_cons_zero, List.set_cons_succ]
        refine ready_value (i := 9) (d := some 29) (v := .slice a7 (n + 1) c7) (w' := W7) rfl (by kernel_rfl) (fun oi ho => ?_) HS7.out ?_
        · obtain rfl := Option.some.inj ho
          exact ⟨by rfl, exec_append 30 30 (.tmp 20) (.tmp 28) (.slice a n c) (.slice (some ⟨Wq.heap.size, 0, none⟩) 1 1) rfl rfl rfl HR7.out⟩
        simp only [Act.put, List.setIfInBounds_toArray, List.set_cons_zero, List.set_cons_succ]
        refine take_at (i := 10) (d := some 5) (v := .slice a7 (n + 1) c7) rfl (by kernel_rfl) (by kernel_rfl) (by kernel_rfl) (fun _ _ _ h => h) (fun oi ho => ?_) HS7.out ?_
        · obtain rfl := Option.some.inj ho
          exact Or.inl ⟨by rfl, fun wx hSw => by go_simp⟩
        simp only [Act.put, List.setIfInBounds_toArray, List.set_cons_zero, List.set_cons_succ]
        refine wpAnyH_done (by kernel_rfl) ?_ _
        refine NoPanic.normal ?_
        clear hix
        go_wp2
        exact ⟨⟨i + 1, a7, n + 1, c7, by omega, by trivial, by go_num, HE⟩, by simp [intOf]; omega⟩
      · obtain ⟨Wq, hWq⟩ : ∃ W, W = wr.drew := ⟨_, rfl⟩
        have hBq : Below wr.heap.size wr Wq := by rw [hWq]; exact below_drew wr
        have hBWq : Below W.heap.size wr Wq := by rw [hWq]; exact (below_drew wr).mono hszW
        obtain ⟨c2, hs2, hc2⟩ := hPT.from i hpl
        have HJ := Lib.hid (join_any (hPT.below hBq) i p hp rfl hc2 HPO.out.1 HPO.out.2)
        obtain ⟨n2, hn2⟩ : ∃ n2, n2 = path.length - i := ⟨_, rfl⟩
        rw [← hn2] at hs2 HJ
        obtain ⟨q2, hq2⟩ : ∃ q, q = op + i := ⟨_, rfl⟩
        rw [← hq2] at hs2 HJ
        have HBQ := Lib.hid (And.intro hBq hBWq)
        have HK := Lib.hid (And.intro hk (hlast hk))
        have HNN := Lib.hid hn
        generalize S (42 :: r) = X at *
        clear hBq hBWq hR hacc HR0 hPT hlast hp hx hxn hk hq hq2 hn2 hc2 hn hszW hpl
        go_wp2
        refine wp_region_noPanic ?_
        refine wp_region_held_drew (S := fun _ => True) (by kernel_rfl) trivial (fun _ => ?_)
        rw [← hWq]
        clear hWq
        refine take_at (i := 0) (d := some 32) (v := .slice a n c) rfl (by kernel_rfl) (by kernel_rfl) (by kernel_rfl) (fun _ _ _ h => h) (fun oi ho => ?_) trivial ?_
        · obtain rfl := Option.some.inj ho
          exact Or.inl ⟨by rfl, fun wx hSw => by go_simp⟩
        simp only [Act.put, List.setIfInBounds_toArray, List.set_cons_zero, List.set_cons_succ]
        refine take_at (i := 1) (d := some 33) (v := X) rfl (by kernel_rfl) (by kernel_rfl) (by kernel_rfl) (fun _ _ _ h => h) (fun oi ho => ?_) trivial ?_
        · obtain rfl := Option.some.inj ho
          exact Or.inl ⟨by rfl, fun wx hSw => by go_simp⟩
        simp only [Act.put, List.setIfInBounds_toArray, List.set_cons_zero, List.set_cons_succ]
        refine take_at (i := 2) (d := some 34) (v := S r) rfl (by kernel_rfl) (by kernel_rfl) (by kernel_rfl) (fun _ _ _ h => h) (fun oi ho => ?_) trivial ?_
        · obtain rfl := Option.some.inj ho
          exact Or.inl ⟨by rfl, fun wx hSw => by go_simp⟩
        simp only [Act.put, List.setIfInBounds_toArray, List.set_cons_zero, List.set_cons_succ]
        refine take_at (i := 3) (d := some 35) (v := Vp) rfl (by kernel_rfl) (by kernel_rfl) (by kernel_rfl) (fun _ _ _ h => h) (fun oi ho => ?_) trivial ?_
        · obtain rfl := Option.some.inj ho
          exact Or.inl ⟨by rfl, fun wx hSw => by go_simp⟩
        simp only [Act.put, List.setIfInBounds_toArray, List.set_cons_zero, List.set_cons_succ]
        refine take_at (i := 4) (d := some 36) (v := .int .i64 (i : Int)) rfl (by kernel_rfl) (by kernel_rfl) (by kernel_rfl) (fun _ _ _ h => h) (fun oi ho => ?_) trivial ?_
        · obtain rfl := Option.some.inj ho
          exact Or.inl ⟨by rfl, fun wx hSw => by go_simp⟩
        simp only [Act.put, List.setIfInBounds_toArray, List.set_cons_zero, List.set_cons_succ]
        refine take_at (i := 5) (d := some 37) (v := .slice (some ⟨bp, q2, none⟩) n2 c2) rfl (by kernel_rfl) (by kernel_rfl) (by kernel_rfl) (fun _ _ _ h => h) (fun oi ho => ?_) trivial ?_
        · obtain rfl := Option.some.inj ho
          exact Or.inl ⟨by rfl, fun wx hSw => by go_simp⟩
        simp only [Act.put, List.setIfInBounds_toArray, List.set_cons_zero, List.set_cons_succ]
        refine ready_call (i := 6) (d := some 38) (f := 37) (args := #[.slice (some ⟨bp, q2, none⟩) n2 c2, .string ⟨#[47]⟩]) rfl (by kernel_rfl) (fun oi ho => ?_) ?_
        · obtain rfl := Option.some.inj ho
          exact ⟨by rfl, by go_simp⟩
        refine (HJ.out).mono ?_
        rintro e W5 ⟨rfl, hB5⟩
        obtain ⟨a7, c7, W7, hr7, hF7, hB7⟩ := run_addT ((HR.out.own.below HBQ.out.1).below hB5) (by have := HAC.out; have := HNN.out; omega) (by have := HBQ.out.1.size; have := hB5.size; have := HSZ.out; omega) (r, joinP p (path.drop (i + 1))) 30
        rw [← HAC.out] at hr7 hF7
        have HE : Hid (∃ acc', n + 1 = acc'.length ∧ TkAt W l path acc' (.slice a7 (n + 1) c7) (i + 1) W7) := Lib.hid ⟨acc ++ [(r, joinP p (path.drop (i + 1)))], by rw [List.length_append, List.length_singleton, HAC.out], HR.out.rst HX.out.1 HX.out.2 HK.out.1 HK.out.2 hF7 (HBQ.out.2.trans ((hB5.mono (Nat.le_trans HSZ.out HBQ.out.1.size)).trans hB7))⟩
        generalize joinP p (path.drop (i + 1)) = J at *
        have hr7' : (Builtin.append_ #[30, 30] 30 #[.slice a n c, .slice (some ⟨W5.heap.size, 0, none⟩) 1 1]).run Tryd.prog (W5.alloc (.cells #[S r, S J] 41)) = .ok (.slice a7 (n + 1) c7) W7 := hr7
        have HR7 := Lib.hid hr7'
        clear hr7 hr7' hF7 hB7 hB5
        refine ⟨_, rfl, trivial, ?_⟩
        simp only [Act.put, List.setIfInBounds_toArray, List.set_cons_zero, List.set_cons_succ]
        refine take_at (i := 7) (d := some 39) (v := .agg #[S r, S J]) rfl (by kernel_rfl) (by kernel_rfl) (by kernel_rfl) (fun _ _ _ h => h) (fun oi ho => ?_) trivial ?_
        · obtain rfl := Option.some.inj ho
          exact Or.inl ⟨by rfl, fun wx hSw => by go_simp⟩
        simp only [Act.put, List.setIfInBounds_toArray, List.set_cons_zero, List.set_cons_succ]
        refine ready_value (i := 8) (d := some 40) (v := .slice (some ⟨W5.heap.size, 0, none⟩) 1 1) (w' := W5.alloc (.cells #[S r, S J] 41)) rfl (by kernel_rfl) (fun oi ho => ?_) trivial ?_
        · obtain rfl := Option.some.inj ho
          exact ⟨by rfl, by go_simp⟩
        simp only [Act.put, List.setIfInBounds_toArray, List.set_cons_zero, List.set_cons_succ]
        refine ready_value (i := 9) (d := some 41) (v := .slice a7 (n + 1) c7) (w' := W7) rfl (by kernel_rfl) (fun oi ho => ?_) trivial ?_
        · obtain rfl := Option.some.inj ho
          exact ⟨by rfl, exec_append 30 30 (.tmp 32) (.tmp 40) (.slice a n c) (.slice (some ⟨W5.heap.size, 0, none⟩) 1 1) rfl rfl rfl HR7.out⟩
        simp only [Act.put, List.setIfInBounds_toArray, List.set_cons_zero, List.set_cons_succ]
        refine take_at (i := 10) (d := some 5) (v := .slice a7 (n + 1) c7) rfl (by kernel_rfl) (by kernel_rfl) (by kernel_rfl) (fun _ _ _ h => h) (fun oi ho => ?_) trivial ?_
        · obtain rfl := Option.some.inj ho
          exact Or.inl ⟨by rfl, fun wx hSw => by go_simp⟩
        simp only [Act.put, List.setIfInBounds_toArray, List.set_cons_zero, List.set_cons_succ]
        refine wpAnyH_done (by kernel_rfl) ?_ _
        refine NoPanic.normal ?_
        clear hix
        go_wp2
        exact ⟨⟨i + 1, a7, n + 1, c7, by omega, by trivial, by go_num, HE⟩, by simp [intOf]; omega⟩
      · have HE : Hid (∃ acc', n = acc'.length ∧ TkAt W l path acc' (.slice a n c) (i + 1) wr) := Lib.hid ⟨acc, hacc, hR.lit hx hk⟩
        generalize S (cc :: r) = X at *
        clear hR hacc HR0 hPT hlast hp hx hxn hk hq hn hszW hpl
        go_wp2
        exact ⟨⟨i + 1, a, n, c, by omega, by trivial, by go_num, HE⟩, by simp [intOf]; omega⟩
end Go.Proofs.YtgoaljnfegaldaaDoor
