/- FieldParts walked, over any package that does what is asked of it: the walk. -/
import Derived.Test.YtccccpbaolegcaaDoorFg
namespace Go.Proofs.YtccccpbaolegcaaDoor
open Go.RowKit Go.Shelf
attribute [local go_sem] store_one Oper.semAt_some S_match S_store

section
variable {w W : World} {s t : List UInt8} {b5 : Nat} {v : Value} {xs : List (List UInt8)} {Ds : List Nat}
theorem Fp.c2 (h : Fp w s t b5 v xs Ds W) : W.cell? ⟨w.heap.size, 0, none⟩ = some (S s) := cell_of_row W _ 0 _ 9 (0, 0) h.s2
theorem Fp.c3 (h : Fp w s t b5 v xs Ds W) : W.cell? ⟨w.heap.size + 1, 0, none⟩ = some (S t) := cell_of_row W _ 0 _ 9 (0, 0) h.t3
theorem Fp.c4 (h : Fp w s t b5 v xs Ds W) : W.cell? ⟨w.heap.size + 2, 0, none⟩ = some (.bool false) := cell_of_row W _ 0 _ 4 (0, 0) h.a4
theorem Fp.c5 (h : Fp w s t b5 v xs Ds W) : W.cell? ⟨b5, 0, none⟩ = some v := cell_of_row W _ 0 _ 34 (0, 0) h.box
end
theorem below_alloc1 (W : World) (o : Obj) : Below W.heap.size W (W.alloc o) := (Below.refl _ W).alloc (Nat.le_refl _) _
set_option maxRecDepth 100000 in
set_option maxHeartbeats 4000000 in
theorem fparts_any (F : FieldI) (s t : List UInt8) (_hs : s.length ≤ maxLen) (_ht : t.length ≤ maxLen) (w : World) :
    Calls Tryd.prog 8 #[S s, S t] w fun e w' => e = .returned (.bool true) ∧ Below w.heap.size w w' := by
  have hlenS := run_len_S (P := Tryd.prog) Tryd.underlying9 3 s
  have hlenT := run_len_S (P := Tryd.prog) Tryd.underlying9 3 t
  refine (callsIn_wide (n := 5)).1 (callsIn_of_wp_marks Tryd.func8 rfl trivial ?_ rfl)
  simp only [Tryd.ntmps8, List.size_toArray, List.length_cons, List.length_nil, Nat.reduceAdd, Nat.reduceSub, Array.replicate_succ, Array.replicate_zero, List.push_toArray, List.append_toArray, List.nil_append, List.cons_append]
  rw [wpIn_wide]
  go_wp2_with fail
  refine (awake_any F _).mono ?_
  rintro e W1 ⟨rfl, hB⟩
  have h2 : Row W1 w.heap.size #[S s] 9 := (((row_new w #[S s] 9).alloc _).alloc _).below hB (by simp; omega)
  have h3 : Row W1 (w.heap.size + 1) #[S t] 9 := by
    have := ((row_new (w.alloc (.cells #[S s] 9)) #[S t] 9).alloc (.cells #[.bool false] 4)).below hB (by simp)
    rw [alloc_size] at this; exact this
  have h4 : Row W1 (w.heap.size + 2) #[.bool false] 4 := by
    have := (row_new ((w.alloc (.cells #[S s] 9)).alloc (.cells #[S t] 9)) #[.bool false] 4).below hB (by simp)
    rw [alloc_size, alloc_size] at this; exact this
  have hBw : Below w.heap.size w W1 := ((((Below.refl _ w).alloc (Nat.le_refl _) (.cells #[S s] 9)).alloc (by simp) (.cells #[S t] 9)).alloc (by simp; omega) (.cells #[.bool false] 4)).trans (hB.mono (by simp; omega))
  have c2 : W1.cell? ⟨w.heap.size, 0, none⟩ = some (S s) := cell_of_row W1 _ 0 _ 9 (0, 0) h2
  have c3 : W1.cell? ⟨w.heap.size + 1, 0, none⟩ = some (S t) := cell_of_row W1 _ 0 _ 9 (0, 0) h3
  have ca : W1.cell? ⟨w.heap.size + 2, 0, none⟩ = some (.bool false) := cell_of_row W1 _ 0 _ 4 (0, 0) h4
  have fa := Row.frozen h4 0
  have H1 := Lib.hid (And.intro h2 (And.intro h3 (And.intro h4 hBw)))
  clear hB h2 h3 h4 hBw
  by_cases hS3 : 1000 < s.length
  · have j1 : decide ((1000 : Int) < (s.length : Int)) = true := decide_eq_true (by omega)
    have hc5 : (W1.setCell ⟨w.heap.size + 2, 0, none⟩ (.bool true)).cell? ⟨w.heap.size + 2, 0, none⟩ = some (.bool true) := World.cell?_setCell_same _ _ _ ca
    go_wp2
    refine ⟨.bool true, ?_, rfl, H1.out.2.2.2.setCell (p := ⟨w.heap.size + 2, 0, none⟩) (by show w.heap.size ≤ w.heap.size + 2; omega) _⟩
    simp [results, Tryd.f8, go_sem, hc5]
  have j1 : decide ((1000 : Int) < (s.length : Int)) = false := decide_eq_false (by omega)
  by_cases hT3 : 1000 < t.length
  · have j2 : decide ((1000 : Int) < (t.length : Int)) = true := decide_eq_true (by omega)
    have hc5 : (W1.setCell ⟨w.heap.size + 2, 0, none⟩ (.bool true)).cell? ⟨w.heap.size + 2, 0, none⟩ = some (.bool true) := World.cell?_setCell_same _ _ _ ca
    go_wp2
    refine ⟨.bool true, ?_, rfl, H1.out.2.2.2.setCell (p := ⟨w.heap.size + 2, 0, none⟩) (by show w.heap.size ≤ w.heap.size + 2; omega) _⟩
    simp [results, Tryd.f8, go_sem, hc5]
  have j2 : decide ((1000 : Int) < (t.length : Int)) = false := decide_eq_false (by omega)
  have hs1 : s.length ≤ 1000 := by omega
  have ht1 : t.length ≤ 1000 := by omega
  have HL : Hid (s.length ≤ 1000 ∧ t.length ≤ 1000) := Lib.hid ⟨hs1, ht1⟩
  have HE := Lib.hid F.each
  clear ca fa _hs _ht hS3 hT3 hs1 ht1
  obtain ⟨b5, hb5⟩ : ∃ b5, b5 = W1.heap.size := ⟨_, rfl⟩
  obtain ⟨W2, hW2⟩ : ∃ W2, W2 = W1.alloc (.cells #[.slice none 0 0] 34) := ⟨_, rfl⟩
  have hF2 : Fp w s t b5 (.slice none 0 0) [] [] W2 := by
    obtain ⟨h2, h3, h4, hBw⟩ := H1.out
    rw [hW2, hb5]
    exact ⟨h2.alloc _, h3.alloc _, h4.alloc _, hBw.alloc hBw.size _, row_new W1 _ _, .inl ⟨rfl, rfl⟩, by have := h4.lt; omega, fun D hD => by cases hD⟩
  have d2 : (W1.alloc (.cells #[.slice none 0 0] 34)).cell? ⟨w.heap.size, 0, none⟩ = some (S s) := by rw [← hW2]; exact hF2.c2
  have H2 := Lib.hid hF2
  clear hF2 H1
  have hnl : ∀ (f : Fn) (x y : Array Value) w, (binOp .eql 27 (.func f x y) .nilFunc).run Tryd.prog w = .ok (.bool false) w := fun f x y w => eql_nilFunc Tryd.underlying27 _ _ _ w
  go_wp2_with fail
  rw [← hb5, ← hW2]
  clear hb5 hW2 c2 c3 d2 j1 j2 hlenS hlenT
  refine (HE.out s _ (by have := HL.out.1; omega)).mono ?_
  rintro e W3 ⟨gf0, lb0, _, _, rfl, hB, _⟩
  have hF3 := H2.out.below hB
  have c2 := hF3.c2
  have H3 := Lib.hid hF3
  clear hF3 hB H2
  go_wp2_with fail
  clear c2
  refine (HE.out s _ (by have := HL.out.1; omega)).mono ?_
  rintro e W4 ⟨gf, lb, K, Kb, rfl, hB, hKb, eg, hseq⟩
  have H4 : Hid (Fp w s t b5 (.slice none 0 0) [] [] W4 ∧ (∀ r, Kb r → b5 < r ∧ r < W4.heap.size) ∧ b5 < W4.heap.size) := Lib.hid ⟨H3.out.below hB, fun r hr => by have := hKb r hr; have := H3.out.box.lt; omega, by have := hB.size; have := H3.out.box.lt; omega⟩
  clear hB hKb H3
  go_wp2
  rw [← wpIn_wide (n := 5)]
  refine wpIn_rangeFunc_L2 (gf := gf) (lb := lb) rfl eg hseq (fun r hr => (H4.out.2.1 r hr).2) (fun W hb => hb) (fun _ => rfl)
    (fun pre W => ∃ v, Fp w s t b5 v pre [] W ∧ ∀ k, v.ownBlock = some k → ¬ (Kb k ∨ (W4.heap.size ≤ k ∧ k < W4.heap.size + (K + 2)))) (fun _ _ _ => False)
    ?hI (fun _ _ _ _ _ hs _ _ => hs) ⟨_, H4.out.1, fun k e => by cases e⟩ ?round ?done ?stop
  case hI =>
    rintro pre W W' row ⟨v, h, hn⟩ hg hr
    exact ⟨v, h.grown hg (fun k e => ⟨by have := hr k e; have := H4.out.2.2; omega, fun e2 => hn k e2 (.inr (hr k e)), List.not_mem_nil⟩), hn⟩
  case round =>
    intro l pre x Wr Kc hpx hKc
    unfold encS
    gi_wp2
    rintro W ⟨v, h, hn⟩ hsz
    obtain ⟨va, vn, vc, rfl⟩ := own_slice h.own
    have hpl : pre.length < (partsF s).length := (List.getElem?_eq_some_iff.1 (list_next hpx)).1
    have hcnt := pts_count s []
    have hps : (partsF s).length ≤ s.length + 1 := hcnt
    obtain ⟨a', n', c', w', hrun, ho', hg', hk'⟩ := push_text_run h.own x (by rw [List.length_map]; have := HL.out.1; omega) (by have := h.box.lt; omega)
    have h5' := row_grown h.box hg' (fun e => by have := (h.own.lt b5 e.symm).1; omega)
    have c5 := h.c5
    have c5' : w'.cell? ⟨b5, 0, none⟩ = some (.slice va vn vc) := cell_of_row w' _ 0 _ 34 (0, 0) h5'
    have f5' := Row.frozen h5' 0
    have HI : Hid (Fp w s t b5 (.slice a' n' c') (pre ++ [x]) [] (w'.setCell ⟨b5, 0, none⟩ (.slice a' n' c')) ∧ (∀ k, (Value.slice a' n' c').ownBlock = some k → ¬ (Kb k ∨ (W4.heap.size ≤ k ∧ k < W4.heap.size + (K + 2)))) ∧
        Kept (fun r => Kb r ∨ (W4.heap.size ≤ r ∧ r < W4.heap.size + (K + 2))) W (w'.setCell ⟨b5, 0, none⟩ (.slice a' n' c'))) := Lib.hid (by
      refine ⟨h.push hg' ho' hk', fun k e => ?_, ⟨by have := hg'.size; simpa [World.setCell] using this, fun r hr => ?_⟩⟩
      · rcases hk' k e with e2 | e2
        · exact hn k e2
        · rintro (h1 | h1)
          · have := H4.out.2.1 k h1; omega
          · omega
      · have hrb : b5 < r ∧ r < W.heap.size := by
          rcases hr with h1 | h1
          · have := H4.out.2.1 r h1; omega
          · have := H4.out.2.2; omega
        rw [Below.heap_setCell _ _ _ _ (show r ≠ b5 by omega)]
        exact hg'.block r hrb.2 (fun e => hn r e.symm hr))
    clear h h5' hg' hk' ho' hn hpx hpl hcnt hps
    gi_wp2_with (first
      | (gi_at_builtin; refine wpListIn_append_run rfl (.tmp 29) (.tmp 31) 34 rfl (.slice va vn vc) (.slice (some ⟨W.heap.size, 0, none⟩) 1 1) rfl rfl (.slice a' n' c') w' hrun ?_)
      | fail)
    exact ⟨HI.out.2.2, _, HI.out.1, HI.out.2.1⟩
  case stop => exact fun c pre W hpre h hK => h.elim
  case done =>
    rintro W ⟨v, h, hn⟩ hD
    obtain ⟨va, vn, vc, rfl⟩ := own_slice h.own
    obtain ⟨D1, hD1⟩ : ∃ D1, D1 = W4.heap.size := ⟨_, rfl⟩
    rw [← hD1] at hD
    rw [← hD1]
    have hF5 : Fp w s t b5 (.slice va vn vc) (partsF s) [D1] W := h.more hD (by rw [hD1]; exact H4.out.2.2) (fun e => hn D1 e (.inr ⟨by omega, by omega⟩))
    have hlen := own_len hF5.own 34 9 3 Tryd.underlying34
    rw [List.length_map] at hlen
    have c3 := hF5.c3
    have c5 := hF5.c5
    have H5 := Lib.hid hF5
    clear h hn hD hD1 hF5 hseq eg H4
    obtain ⟨L1, hL1⟩ : ∃ L1, L1 = (partsF s).length := ⟨_, rfl⟩
    rw [← hL1] at hlen
    have HL1 := Lib.hid hL1
    clear hL1
    go_wp2_with fail
    clear c3 c5 hlen
    refine (HE.out t _ (by have := HL.out.2; omega)).mono ?_
    rintro e W6 ⟨gf2, lb2, _, _, rfl, hB, _⟩
    have hF6 := H5.out.below hB
    have c3 := hF6.c3
    have H6 := Lib.hid (And.intro hF6 (show ∀ k, (Value.slice va vn vc).ownBlock = some k → k < W6.heap.size from fun k e => (hF6.own.lt k e).2))
    clear hF6 hB H5
    go_wp2_with fail
    clear c3
    refine (HE.out t _ (by have := HL.out.2; omega)).mono ?_
    rintro e W7 ⟨gf3, lb3, K3, Kb3, rfl, hB, hKb, eg, hseq⟩
    have H7 : Hid (Fp w s t b5 (.slice va vn vc) (partsF s) [D1] W7 ∧ (∀ r, Kb3 r → b5 < r ∧ D1 < r ∧ r < W7.heap.size) ∧ b5 < D1 ∧ D1 < W7.heap.size ∧ ∀ k, (Value.slice va vn vc).ownBlock = some k → ¬ (Kb3 k ∨ (W7.heap.size ≤ k ∧ k < W7.heap.size + (K3 + 2)))) := Lib.hid (by
      have hd := H6.out.1.dfr D1 (.head _)
      have hdl := (Array.getElem?_eq_some_iff.1 hd.2.1).1
      refine ⟨H6.out.1.below hB, fun r hr => ?_, hd.1, ?_, fun k e => ?_⟩
      · have := hKb r hr; omega
      · have := hB.size; omega
      · have := H6.out.2 k e
        have := hB.size
        rintro (h1 | h1)
        · have := hKb k h1; omega
        · omega)
    clear hB hKb H6
    go_wp2
    rw [← wpIn_wide (n := 5)]
    refine wpIn_rangeFunc_L2 (gf := gf3) (lb := lb3) rfl eg hseq (fun r hr => (H7.out.2.1 r hr).2.2) (fun W hb => hb) (fun _ => rfl)
      (fun pre W => ∃ v, Fp w s t b5 v (partsF s ++ pre) [D1] W ∧ ∀ k, v.ownBlock = some k → ¬ (Kb3 k ∨ (W7.heap.size ≤ k ∧ k < W7.heap.size + (K3 + 2)))) (fun _ _ _ => False)
      ?hI2 (fun _ _ _ _ _ hs _ _ => hs) ⟨_, by rw [List.append_nil]; exact H7.out.1, H7.out.2.2.2.2⟩ ?round2 ?done2 ?stop2
    case hI2 =>
      rintro pre W W' row ⟨v, h, hn⟩ hg hr
      exact ⟨v, h.grown hg (fun k e => ⟨by have := hr k e; have := H7.out.2.2; omega, fun e2 => hn k e2 (.inr (hr k e)), fun hm => by have := List.mem_singleton.1 hm; have := hr k e; have := H7.out.2.2; omega⟩), hn⟩
    case round2 =>
      intro l pre x Wr Kc hpx hKc
      unfold encS
      gi_wp2
      rintro W ⟨v, h, hn⟩ hsz
      obtain ⟨va, vn, vc, rfl⟩ := own_slice h.own
      have hpl : pre.length < (partsF t).length := (List.getElem?_eq_some_iff.1 (list_next hpx)).1
      have hps : (partsF s).length ≤ s.length + 1 := pts_count s []
      have hpt : (partsF t).length ≤ t.length + 1 := pts_count t []
      obtain ⟨a', n', c', w', hrun, ho', hg', hk'⟩ := push_text_run h.own x (by rw [List.length_map, List.length_append]; have := HL.out; omega) (by have := h.box.lt; omega)
      have h5' := row_grown h.box hg' (fun e => by have := (h.own.lt b5 e.symm).1; omega)
      have c5 := h.c5
      have c5' : w'.cell? ⟨b5, 0, none⟩ = some (.slice va vn vc) := cell_of_row w' _ 0 _ 34 (0, 0) h5'
      have f5' := Row.frozen h5' 0
      have HI : Hid (Fp w s t b5 (.slice a' n' c') (partsF s ++ (pre ++ [x])) [D1] (w'.setCell ⟨b5, 0, none⟩ (.slice a' n' c')) ∧ (∀ k, (Value.slice a' n' c').ownBlock = some k → ¬ (Kb3 k ∨ (W7.heap.size ≤ k ∧ k < W7.heap.size + (K3 + 2)))) ∧
          Kept (fun r => Kb3 r ∨ (W7.heap.size ≤ r ∧ r < W7.heap.size + (K3 + 2))) W (w'.setCell ⟨b5, 0, none⟩ (.slice a' n' c'))) := Lib.hid (by
        refine ⟨by rw [← List.append_assoc]; exact h.push hg' ho' hk', fun k e => ?_, ⟨by have := hg'.size; simpa [World.setCell] using this, fun r hr => ?_⟩⟩
        · rcases hk' k e with e2 | e2
          · exact hn k e2
          · rintro (h1 | h1)
            · have := H7.out.2.1 k h1; omega
            · omega
        · have hrb : b5 < r ∧ r < W.heap.size := by
            rcases hr with h1 | h1
            · have := H7.out.2.1 r h1; omega
            · have := H7.out.2.2; omega
          rw [Below.heap_setCell _ _ _ _ (show r ≠ b5 by omega)]
          exact hg'.block r hrb.2 (fun e => hn r e.symm hr))
      clear h h5' hg' hk' ho' hn hpx hpl hps hpt
      gi_wp2_with (first
        | (gi_at_builtin; refine wpListIn_append_run rfl (.tmp 41) (.tmp 43) 34 rfl (.slice va vn vc) (.slice (some ⟨W.heap.size, 0, none⟩) 1 1) rfl rfl (.slice a' n' c') w' hrun ?_)
        | fail)
      exact ⟨HI.out.2.2, _, HI.out.1, HI.out.2.1⟩
    case stop2 => exact fun c pre W hpre h hK => h.elim
    case done2 =>
      rintro W ⟨v, h, hn⟩ hD
      obtain ⟨va, vn, vc, rfl⟩ := own_slice h.own
      obtain ⟨D2, hD2⟩ : ∃ D2, D2 = W7.heap.size := ⟨_, rfl⟩
      rw [← hD2] at hD
      rw [← hD2]
      obtain ⟨XS, hXS⟩ : ∃ XS, XS = partsF s ++ partsF t := ⟨_, rfl⟩
      rw [← hXS] at h
      have hD12 : D1 < D2 := by have := H7.out.2.2; omega
      have hF8 : Fp w s t b5 (.slice va vn vc) XS [D2, D1] W := h.more hD (by have := H7.out.2.2; omega) (fun e => hn D2 e (.inr ⟨by omega, by omega⟩))
      have hpall : ∀ p ∈ XS, IsPart p := fun p hp => by
        rw [hXS] at hp
        rcases List.mem_append.1 hp with hp | hp
        · exact parts_part hp
        · exact parts_part hp
      have hJ := join_le s t
      rw [← hXS] at hJ
      have HX : Hid (partsF ((s ++ [32, 44, 9]) ++ t) = XS ∧ (∀ p ∈ XS, hasF ((s ++ [44]) ++ t) p = true) ∧ (∀ p ∈ XS, IsPart p) ∧ partsF (joinF XS) = XS ∧ (joinF XS).length ≤ s.length + t.length + 2 ∧ (∀ p ∈ XS, p.length ≤ 1000)) := Lib.hid
        ⟨by rw [parts_two, hXS], fun p hp => has_part (by rw [← hXS]; exact hp), hpall, parts_joined hpall, hJ, fun p hp => by
          rw [hXS] at hp
          rcases List.mem_append.1 hp with hp | hp
          · have := parts_le hp; have := HL.out.1; omega
          · have := parts_le hp; have := HL.out.2; omega⟩
      have hl1 : (L1 : Int) ≤ (XS.length : Int) := by rw [hXS, List.length_append, ← HL1.out]; omega
      have hln : XS.length ≤ 2002 := by
        have h1 : (partsF s).length ≤ s.length + 1 := pts_count s []
        have h2 : (partsF t).length ≤ t.length + 1 := pts_count t []
        rw [hXS, List.length_append]; have := HL.out; omega
      have HN : Hid ((L1 : Int) ≤ (XS.length : Int) ∧ XS.length ≤ 2002 ∧ D1 < D2) := Lib.hid ⟨hl1, hln, hD12⟩
      clear h hn hD hD2 hXS hpall hJ hl1 hln hD12 hseq eg H7 HL1
      obtain ⟨b9, hb9⟩ : ∃ b9, b9 = W.heap.size := ⟨_, rfl⟩
      obtain ⟨W9, hW9⟩ : ∃ W9, W9 = (W.alloc (.cells #[.string ⟨#[]⟩] 9)).alloc (.cells #[.int .i64 0] 3) := ⟨_, rfl⟩
      have hB9 : Below W.heap.size W W9 := by rw [hW9]; exact (below_alloc1 W _).alloc (by simp) _
      have hF9 := hF8.below hB9
      have r9 : Row W9 b9 #[S []] 9 := by rw [hW9, hb9]; exact (row_new W _ _).alloc _
      have r10 : Row W9 (b9 + 1) #[.int .i64 ((0 : Nat) : Int)] 3 := by
        have := row_new (W.alloc (.cells #[.string ⟨#[]⟩] 9)) #[.int .i64 0] 3
        rw [alloc_size] at this; rw [hW9, hb9]; exact this
      have hown : ∀ k, (Value.slice va vn vc).ownBlock = some k → k < b9 := fun k e => by rw [hb9]; exact (hF8.own.lt k e).2
      have hdb : ∀ D ∈ [D2, D1], D < b9 := fun D hD => by rw [hb9]; exact (Array.getElem?_eq_some_iff.1 (hF8.dfr D hD).2.1).1
      have h5b : b5 < b9 := by rw [hb9]; exact hF8.box.lt
      have d2 : ((W.alloc (.cells #[.string ⟨#[]⟩] 9)).alloc (.cells #[.int .i64 0] 3)).cell? ⟨w.heap.size, 0, none⟩ = some (S s) := by rw [← hW9]; exact hF9.c2
      have d3 : ((W.alloc (.cells #[.string ⟨#[]⟩] 9)).alloc (.cells #[.int .i64 0] 3)).cell? ⟨w.heap.size + 1, 0, none⟩ = some (S t) := by rw [← hW9]; exact hF9.c3
      have H9 := Lib.hid (And.intro hF9 (And.intro r9 r10))
      have HO := Lib.hid (And.intro hown (And.intro hdb h5b))
      obtain ⟨X1, hX1⟩ : ∃ X1, X1 = s ++ [32, 44, 9] := ⟨_, rfl⟩
      obtain ⟨X2, hX2⟩ : ∃ X2, X2 = X1 ++ t := ⟨_, rfl⟩
      have a1 : binOp .add 9 (S s) (.string ⟨#[32, 44, 9]⟩) = pure (S X1) := by rw [hX1]; exact S_add 9 s [32, 44, 9] (by have := HL.out.1; simp; omega)
      have a2 : binOp .add 9 (S X1) (S t) = pure (S X2) := by rw [hX2]; exact S_add 9 X1 t (by rw [hX1]; have := HL.out; simp; omega)
      have HX2 : Hid (partsF X2 = XS ∧ X2.length ≤ 100000) := Lib.hid (by
        refine ⟨by rw [hX2, hX1]; exact HX.out.1, ?_⟩
        rw [hX2, hX1, List.length_append, List.length_append]
        have := HL.out; simp; omega)
      clear hB9 hF8 hF9 r9 r10 hown hdb h5b hX1 hX2
      go_wp2_with fail
      rw [← hW9, ← hb9]
      have HEX : Hid (∀ W, Calls Tryd.prog 11 #[S X2] W fun e w' => ∃ gf lb k Kb, e = .returned (.func (.func gf) #[] lb) ∧ Below W.heap.size W w' ∧ (∀ r, Kb r → W.heap.size ≤ r ∧ r < w'.heap.size) ∧
          (∀ args W, (callFunc gf args).run Tryd.prog W = .ok (.enter gf args) W) ∧ ∀ n, SeqL Tryd.prog n gf lb encS k Kb XS (fun W => Below w'.heap.size w' W)) := Lib.hid fun W => by
        have := HE.out X2 W HX2.out.2
        rwa [HX2.out.1] at this
      clear d2 d3
      refine (HEX.out _).mono ?_
      rintro e WA ⟨gf4, lb4, _, _, rfl, hB, _⟩
      have hFA := H9.out.1.below hB
      have c2 := hFA.c2
      have c3 := hFA.c3
      have HA : Hid (Fp w s t b5 (.slice va vn vc) XS [D2, D1] WA ∧ Row WA b9 #[S []] 9 ∧ Row WA (b9 + 1) #[.int .i64 ((0 : Nat) : Int)] 3) := Lib.hid ⟨hFA, H9.out.2.1.below hB H9.out.2.1.lt, H9.out.2.2.below hB H9.out.2.2.lt⟩
      clear hFA hB H9 hW9 hb9
      go_wp2_with fail
      clear c2 c3 a1 a2
      refine (HEX.out _).mono ?_
      rintro e WB ⟨gf5, lb5, K5, Kb5, rfl, hB, hKb, eg, hseq⟩
      have HB : Hid (Fp w s t b5 (.slice va vn vc) XS [D2, D1] WB ∧ Row WB b9 #[S []] 9 ∧ Row WB (b9 + 1) #[.int .i64 ((0 : Nat) : Int)] 3 ∧ (∀ r, Kb5 r → b9 + 2 ≤ r ∧ r < WB.heap.size) ∧ b9 + 2 ≤ WB.heap.size) := Lib.hid (by
        have hl := HA.out.2.2.lt
        exact ⟨HA.out.1.below hB, HA.out.2.1.below hB HA.out.2.1.lt, HA.out.2.2.below hB HA.out.2.2.lt, fun r hr => by have := hKb r hr; omega, by have := hB.size; omega⟩)
      clear hB hKb HA HEX
      go_wp2
      rw [← wpIn_wide (n := 5)]
      refine wpIn_rangeFunc_L2 (gf := gf5) (lb := lb5) rfl eg hseq (fun r hr => (HB.out.2.2.2.1 r hr).2) (fun W hb => hb) (fun _ => rfl)
        (fun pre W => Fp w s t b5 (.slice va vn vc) XS [D2, D1] W ∧ Row W b9 #[S (joinF pre)] 9 ∧ Row W (b9 + 1) #[.int .i64 (pre.length : Int)] 3) (fun _ _ _ => False)
        ?hI3 (fun _ _ _ _ _ hs _ _ => hs) ⟨HB.out.1, HB.out.2.1, HB.out.2.2.1⟩ ?round3 ?done3 ?stop3
      case hI3 =>
        rintro pre W W' row ⟨h, h9, h10⟩ hg hr
        have hlo := HB.out.2.2.2.2
        exact ⟨h.grown hg (fun k e => ⟨by have := hr k e; have := HO.out.2.2; omega, fun e2 => by have := hr k e; have := HO.out.1 k e2; omega, fun hm => by have := hr k e; have := HO.out.2.1 k hm; omega⟩),
          row_grown h9 hg (fun e => by have := hr _ e.symm; omega), row_grown h10 hg (fun e => by have := hr _ e.symm; omega)⟩
      case stop3 => exact fun c pre W hpre h hK => h.elim
      case round3 =>
        intro l pre x Wr Kc hpx hKc
        unfold encS
        gi_wp2
        rintro W ⟨h, h9, h10⟩ hsz
        have hx := list_next hpx
        have hxl : pre.length < XS.length := (List.getElem?_eq_some_iff.1 hx).1
        have hmem : x ∈ XS := hpx.subset (List.mem_append.2 (.inr (List.mem_singleton.2 rfl)))
        obtain ⟨ad, hix, hcl⟩ := own_cells h.own Tryd.underlying34 (fun w => Tryd.sizeOf9 w)
        rw [List.length_map] at hix hcl
        have hixp := hix pre.length hxl
        have hcp : W.cell? (ad pre.length) = some (S x) := by rw [(hcl pre.length hxl).2.2.1, List.getElem?_map, hx]; rfl
        have hlen := own_len h.own 34 9 3 Tryd.underlying34
        rw [List.length_map] at hlen
        have c2 := h.c2
        have c3 := h.c3
        have c5 := h.c5
        have c9 := cell_of_row W _ 0 _ 9 (0, 0) h9
        have c10 := cell_of_row W _ 0 _ 3 (0, 0) h10
        have hge : decide ((XS.length : Int) ≤ (pre.length : Int)) = false := decide_eq_false (by omega)
        have hge' : decide (XS.length ≤ pre.length) = false := decide_eq_false (by omega)
        have hneq : binOp .neq 9 (S x) (S x) = pure (.bool false) := by rw [neql_S]; simp
        have hgd := nguard_S 9
        have hnil : binOp .eql 9 (S x) (.string ⟨#[]⟩) = pure (.bool false) := by
          refine (eql_S 9 x []).trans ?_
          rw [beq_eq_false_iff_ne.2 (HX.out.2.2.1 x hmem).some]
        have hnilg : ∀ a b, eqGuard .eql 9 a b (S x) (.string ⟨#[]⟩) = pure () := fun a b => guard_S 9 a b x []
        obtain ⟨Y1, hY1⟩ : ∃ Y1, Y1 = s ++ [44] := ⟨_, rfl⟩
        obtain ⟨Y2, hY2⟩ : ∃ Y2, Y2 = Y1 ++ t := ⟨_, rfl⟩
        have a3 : binOp .add 9 (S s) (.string ⟨#[44]⟩) = pure (S Y1) := by rw [hY1]; exact S_add 9 s [44] (by have := HL.out.1; simp; omega)
        have a4 : binOp .add 9 (S Y1) (S t) = pure (S Y2) := by rw [hY2]; exact S_add 9 Y1 t (by rw [hY1]; have := HL.out; simp; omega)
        have HH : Hid (Calls Tryd.prog 14 #[S Y2, S x] W fun e w' => e = .returned (.bool true) ∧ Below W.heap.size W w') := Lib.hid (by
          have hyl : Y2.length ≤ 100000 := by rw [hY2, hY1, List.length_append, List.length_append]; have := HL.out; simp; omega
          have := F.has Y2 x W hyl (by have := HX.out.2.2.2.2.2 x hmem; omega)
          rwa [show hasF Y2 x = true by rw [hY2, hY1]; exact HX.out.2.1 x hmem] at this)
        have hjm := join_mono hpx
        rw [join_next] at hjm
        obtain ⟨y, hy⟩ : ∃ y, y = joinF pre := ⟨_, rfl⟩
        rw [← hy] at c9 hjm
        obtain ⟨z1, hz1⟩ : ∃ z1, z1 = y ++ [44] := ⟨_, rfl⟩
        obtain ⟨z2, hz2⟩ : ∃ z2, z2 = z1 ++ x := ⟨_, rfl⟩
        rw [← hz1, ← hz2] at hjm
        have hjx := HX.out.2.2.2.2.1
        have hz2l : z2.length ≤ 2002 := by have := HL.out; omega
        have hz1l : z1.length + x.length ≤ 2002 := by rw [hz2, List.length_append] at hz2l; exact hz2l
        have hyl : y.length + 1 ≤ 2002 := by rw [hz1, List.length_append, List.length_singleton] at hz1l; omega
        have a5 : binOp .add 9 (S y) (.string ⟨#[44]⟩) = pure (S z1) := by rw [hz1]; exact S_add 9 y [44] (by simp; omega)
        have a6 : binOp .add 9 (S z1) (S x) = pure (S z2) := by rw [hz2]; exact S_add 9 z1 x (by omega)
        have HZ : Hid (z2 = joinF (pre ++ [x])) := Lib.hid (by rw [hz2, hz1, hy, join_next])
        have hpl : pre.length < 100001 := by have := HN.out.2.1; omega
        have hw1 : IntKind.i64.wrap ((pre.length : Int) + 1) = (pre.length : Int) + 1 := by rw [IntKind.wrap_i64]; omega
        have e1 : (pre ++ [x]).length = pre.length + 1 := by rw [List.length_append, List.length_singleton]
        have HI := Lib.hid (And.intro h (And.intro h9 (And.intro h10 e1)))
        clear h h9 h10 hx hpx hxl hmem hix hcl e1 hY1 hY2 hjm hjx hz1 hz2 hz2l hz1l hyl
        generalize XS.length = L at *
        generalize ad pre.length = adp at *
        gi_wp2_with fail
        refine ⟨trivial, ((callsIn_wide.2 HH.out).inRound l).mono ?_⟩
        rintro e WH ⟨rfl, hB⟩
        clear c2 c3 c5 c9 c10 hcp hlen hixp a3 a4 hneq hgd hnil hnilg
        have hF := HI.out.1.below hB
        have h9 := HI.out.2.1.below hB HI.out.2.1.lt
        have h10 := HI.out.2.2.1.below hB HI.out.2.2.1.lt
        have c9 : WH.cell? ⟨b9, 0, none⟩ = some (S y) := by rw [hy]; exact cell_of_row WH _ 0 _ 9 (0, 0) h9
        have c10 := cell_of_row WH _ 0 _ 3 (0, 0) h10
        have f9 := Row.frozen h9 0
        have f10 := Row.frozen h10 0
        have HF := Lib.hid (And.intro hF (And.intro h9 (And.intro h10 hB)))
        clear hF h9 h10 hB HH hy
        gi_wp2
        obtain ⟨hF, h9, h10, hB⟩ := HF.out
        have hO := HO.out
        have hb := HB.out.2.2.2
        have hg1 := grown_cell WH b9 0 (S z2)
        have hg2 := grown_cell (WH.setCell ⟨b9, 0, none⟩ (S z2)) (b9 + 1) 0 (.int .i64 ((pre.length : Int) + 1))
        have hF1 := hF.grown hg1 (fun k e => by
          cases e
          exact ⟨hO.2.2, fun e2 => by have := hO.1 _ e2; omega, fun hm => by have := hO.2.1 _ hm; omega⟩)
        have hF2 := hF1.grown hg2 (fun k e => by
          cases e
          exact ⟨by have := hO.2.2; omega, fun e2 => by have := hO.1 _ e2; omega, fun hm => by have := hO.2.1 _ hm; omega⟩)
        refine ⟨⟨by have h1 := hB.size; have h2 := hg1.size; have h3 := hg2.size; omega, fun r hr => ?_⟩, hF2, ?_, ?_⟩
        · have hr2 : b9 + 2 ≤ r ∧ r < W.heap.size := by
            rcases hr with hr | hr
            · have := hb.1 r hr; omega
            · have := hb.2; omega
          have h1 := hB.size
          have h2 := hg1.size
          exact (hg2.block r (by omega) (fun e => by have := Option.some.inj e; omega)).trans ((hg1.block r (by omega) (fun e => by have := Option.some.inj e; omega)).trans (hB.block r hr2.2))
        · rw [← HZ.out]; exact (h9.set 0 _).other (by show b9 ≠ b9 + 1; omega)
        · rw [HI.out.2.2.2]
          have := (h10.other (a := ⟨b9, 0, none⟩) (v := S z2) (by show b9 + 1 ≠ b9; omega)).set 0 (.int .i64 ((pre.length : Int) + 1))
          rw [show ((pre.length + 1 : Nat) : Int) = (pre.length : Int) + 1 by omega]
          exact this
      case done3 =>
        rintro W ⟨h, h9, h10⟩ hD
        obtain ⟨D3, hD3⟩ : ∃ D3, D3 = WB.heap.size := ⟨_, rfl⟩
        rw [← hD3] at hD
        rw [← hD3]
        have hb := HB.out.2.2.2.2
        have hO := HO.out
        have h93 : b9 + 2 ≤ D3 := by omega
        have hFC : Fp w s t b5 (.slice va vn vc) XS [D3, D2, D1] W := h.more hD (by omega) (fun e => by have := hO.1 _ e; omega)
        have hlen := own_len hFC.own 34 9 3 Tryd.underlying34
        rw [List.length_map] at hlen
        obtain ⟨J, hJ⟩ : ∃ J, J = joinF XS := ⟨_, rfl⟩
        rw [← hJ] at h9
        have HJ : Hid (partsF J = XS ∧ J.length ≤ 2002) := Lib.hid (by rw [hJ]; exact ⟨HX.out.2.2.2.1, by have := HX.out.2.2.2.2.1; have := HL.out; omega⟩)
        have c5 := hFC.c5
        have c9 := cell_of_row W _ 0 _ 9 (0, 0) h9
        have c10 := cell_of_row W _ 0 _ 3 (0, 0) h10
        have f10 := Row.frozen h10 0
        have hq : ((XS.length : Int) != (XS.length : Int)) = false := by simp
        have hj : decide ((XS.length : Int) < (L1 : Int)) = false := decide_eq_false (by have := HN.out.1; omega)
        have hj' : decide (XS.length < L1) = false := decide_eq_false (by have := HN.out.1; omega)
        have HC : Hid (Fp w s t b5 (.slice va vn vc) XS [D3, D2, D1] W ∧ Row W b9 #[S J] 9 ∧ Row W (b9 + 1) #[.int .i64 (XS.length : Int)] 3) := Lib.hid ⟨hFC, h9, h10⟩
        have H93 := Lib.hid h93
        have HEJ : Hid (∀ W, Calls Tryd.prog 11 #[S J] W fun e w' => ∃ gf lb k Kb, e = .returned (.func (.func gf) #[] lb) ∧ Below W.heap.size W w' ∧ (∀ r, Kb r → W.heap.size ≤ r ∧ r < w'.heap.size) ∧
            (∀ args W, (callFunc gf args).run Tryd.prog W = .ok (.enter gf args) W) ∧ ∀ n, SeqL Tryd.prog n gf lb encS k Kb XS (fun W => Below w'.heap.size w' W)) := Lib.hid fun W => by
          have := HE.out J W (by have := HJ.out.2; omega)
          rwa [HJ.out.1] at this
        clear h h9 h10 hD hD3 hb hO h93 hFC hJ hseq eg HB
        generalize hLL : XS.length = L at *
        have HLL := Lib.hid hLL
        clear hLL
        go_wp2_with fail
        obtain ⟨WC, hWC⟩ : ∃ WC, WC = W.setCell ⟨b9 + 1, 0, none⟩ (.int .i64 0) := ⟨_, rfl⟩
        have hFD : Fp w s t b5 (.slice va vn vc) XS [D3, D2, D1] WC ∧ Row WC b9 #[S J] 9 ∧ Row WC (b9 + 1) #[.int .i64 ((0 : Nat) : Int)] 3 := by
          obtain ⟨h, h9, h10⟩ := HC.out
          have hO := HO.out
          have h93 := H93.out
          have hg := grown_cell W (b9 + 1) 0 (.int .i64 0)
          rw [hWC]
          refine ⟨h.grown hg (fun k e => ?_), h9.other (by show b9 ≠ b9 + 1; omega), h10.set 0 _⟩
          cases e
          refine ⟨by have := hO.2.2; omega, fun e2 => by have := hO.1 _ e2; omega, fun hm => ?_⟩
          rcases List.mem_cons.1 hm with e | hm
          · omega
          · have := hO.2.1 _ hm; omega
        have HD := Lib.hid hFD
        rw [← hWC]
        clear hFD hWC c5 c9 c10 f10 hq hj hj' HC hlen
        refine (HEJ.out _).mono ?_
        rintro e WE ⟨gf6, lb6, _, _, rfl, hB, _⟩
        have h9 := HD.out.2.1.below hB HD.out.2.1.lt
        have c9 := cell_of_row WE _ 0 _ 9 (0, 0) h9
        have HEE : Hid (Fp w s t b5 (.slice va vn vc) XS [D3, D2, D1] WE ∧ Row WE b9 #[S J] 9 ∧ Row WE (b9 + 1) #[.int .i64 ((0 : Nat) : Int)] 3) := Lib.hid ⟨HD.out.1.below hB, h9, HD.out.2.2.below hB HD.out.2.2.lt⟩
        clear h9 hB HD
        go_wp2_with fail
        clear c9
        refine (HEJ.out _).mono ?_
        rintro e WF ⟨gf7, lb7, K7, Kb7, rfl, hB, hKb, eg, hseq⟩
        have HF : Hid (Fp w s t b5 (.slice va vn vc) XS [D3, D2, D1] WF ∧ Row WF b9 #[S J] 9 ∧ Row WF (b9 + 1) #[.int .i64 ((0 : Nat) : Int)] 3 ∧ (∀ r, Kb7 r → b9 + 2 ≤ r ∧ D3 < r ∧ r < WF.heap.size) ∧ b9 + 2 ≤ WF.heap.size ∧ D3 < WF.heap.size) := Lib.hid (by
          have hl := HEE.out.2.2.lt
          have hd := (Array.getElem?_eq_some_iff.1 (HEE.out.1.dfr D3 (.head _)).2.1).1
          exact ⟨HEE.out.1.below hB, HEE.out.2.1.below hB HEE.out.2.1.lt, HEE.out.2.2.below hB HEE.out.2.2.lt, fun r hr => by have := hKb r hr; omega, by have := hB.size; omega, by have := hB.size; omega⟩)
        clear hB hKb HEE HEJ
        go_wp2
        rw [← wpIn_wide (n := 5)]
        have hdlt : ∀ D ∈ [D3, D2, D1], D < WF.heap.size := fun D hD => (Array.getElem?_eq_some_iff.1 (HF.out.1.dfr D hD).2.1).1
        have HDL := Lib.hid hdlt
        clear hdlt
        refine wpIn_rangeFunc_L2 (gf := gf7) (lb := lb7) rfl eg hseq (fun r hr => (HF.out.2.2.2.1 r hr).2.2) (fun W hb => hb) (fun _ => rfl)
          (fun pre W => Fp w s t b5 (.slice va vn vc) XS [D3, D2, D1] W ∧ Row W b9 #[S J] 9 ∧ Row W (b9 + 1) #[.int .i64 (pre.length : Int)] 3) (fun _ _ _ => False)
          ?hI4 (fun _ _ _ _ _ hs _ _ => hs) ⟨HF.out.1, HF.out.2.1, HF.out.2.2.1⟩ ?round4 ?done4 ?stop4
        case hI4 =>
          rintro pre W W' row ⟨h, h9, h10⟩ hg hr
          have hlo := HF.out.2.2.2.2
          have hO := HO.out
          exact ⟨h.grown hg (fun k e => ⟨by have := hr k e; omega, fun e2 => by have := hr k e; have := hO.1 k e2; omega, fun hm => by have := hr k e; have := HDL.out k hm; omega⟩),
            row_grown h9 hg (fun e => by have := hr _ e.symm; omega), row_grown h10 hg (fun e => by have := hr _ e.symm; omega)⟩
        case stop4 => exact fun c pre W hpre h hK => h.elim
        case round4 =>
          intro l pre x Wr Kc hpx hKc
          unfold encS
          gi_wp2
          rintro W ⟨h, h9, h10⟩ hsz
          have hx := list_next hpx
          have hxl : pre.length < XS.length := (List.getElem?_eq_some_iff.1 hx).1
          obtain ⟨ad, hix, hcl⟩ := own_cells h.own Tryd.underlying34 (fun w => Tryd.sizeOf9 w)
          rw [List.length_map] at hix hcl
          have hixp := hix pre.length hxl
          have hcp : W.cell? (ad pre.length) = some (S x) := by rw [(hcl pre.length hxl).2.2.1, List.getElem?_map, hx]; rfl
          have hlen := own_len h.own 34 9 3 Tryd.underlying34
          rw [List.length_map, HLL.out] at hlen
          rw [HLL.out] at hxl
          have c5 := h.c5
          have c10 := cell_of_row W _ 0 _ 3 (0, 0) h10
          have f10 := Row.frozen h10 0
          have hge : decide ((L : Int) ≤ (pre.length : Int)) = false := decide_eq_false (by omega)
          have hge' : decide (L ≤ pre.length) = false := decide_eq_false (by omega)
          have hneq : binOp .neq 9 (S x) (S x) = pure (.bool false) := by rw [neql_S]; simp
          have hgd := nguard_S 9
          have hpl : pre.length < 100001 := by have := HN.out.2.1; omega
          have hw1 : IntKind.i64.wrap ((pre.length : Int) + 1) = (pre.length : Int) + 1 := by rw [IntKind.wrap_i64]; omega
          have e1 : (pre ++ [x]).length = pre.length + 1 := by rw [List.length_append, List.length_singleton]
          have HI := Lib.hid (And.intro h (And.intro h9 (And.intro h10 e1)))
          clear h h9 h10 hx hpx hix hcl e1
          generalize ad pre.length = adp at *
          gi_wp2
          obtain ⟨h, h9, h10, e1⟩ := HI.out
          have hO := HO.out
          have hlo := HF.out.2.2.2.2
          have hg := grown_cell W (b9 + 1) 0 (.int .i64 ((pre.length : Int) + 1))
          refine ⟨⟨hg.size, fun r hr => ?_⟩, h.grown hg (fun k e => ?_), h9.other (by show b9 ≠ b9 + 1; omega), ?_⟩
          · have hr2 : b9 + 2 ≤ r ∧ r < W.heap.size := by
              rcases hr with hr | hr
              · have := HF.out.2.2.2.1 r hr; omega
              · omega
            exact hg.block r hr2.2 (fun e => by have := Option.some.inj e; omega)
          · cases e
            refine ⟨by have := hO.2.2; omega, fun e2 => by have := hO.1 _ e2; omega, fun hm => ?_⟩
            rcases List.mem_cons.1 hm with e | hm
            · have := H93.out; omega
            · have := hO.2.1 _ hm; omega
          · rw [e1]
            have := h10.set 0 (.int .i64 ((pre.length : Int) + 1))
            rw [show ((pre.length + 1 : Nat) : Int) = (pre.length : Int) + 1 by omega]
            exact this
        case done4 =>
          rintro W ⟨h, h9, h10⟩ hD
          rw [HLL.out] at h10
          obtain ⟨D4, hD4⟩ : ∃ D4, D4 = WF.heap.size := ⟨_, rfl⟩
          rw [← hD4] at hD
          rw [← hD4]
          have hlo := HF.out.2.2.2.2
          have hO := HO.out
          have hFG : Fp w s t b5 (.slice va vn vc) XS [D4, D3, D2, D1] W := h.more hD (by omega) (fun e => by have := hO.1 _ e; omega)
          have hlen := own_len hFG.own 34 9 3 Tryd.underlying34
          rw [List.length_map, HLL.out] at hlen
          have c5 := hFG.c5
          have c10 := cell_of_row W _ 0 _ 3 (0, 0) h10
          have c4 := hFG.c4
          have f4 := Row.frozen hFG.a4 0
          have hq : ((L : Int) == (L : Int)) = true := by simp
          have HG := Lib.hid hFG
          have HDD : Hid (D1 < D2 ∧ D2 < D3 ∧ D3 < D4) := Lib.hid ⟨HN.out.2.2, by have := hO.2.1 D2 (.head _); have := H93.out; omega, by omega⟩
          clear h h9 h10 hD hD4 hlo hO hFG
          go_wp2
          exact fp_end HG.out HDD.out.1 HDD.out.2.1 HDD.out.2.2 rfl _ (by first | rfl | simp)
end Go.Proofs.YtccccpbaolegcaaDoor
