/- FieldReads walked, over any package that does what is asked of it. -/
import Derived.Test.YtccccpbaolegcaaDoorF8
import Derived.Shelf.Abstract
import Derived.Shelf.RegionOpen
namespace Go.Proofs.YtccccpbaolegcaaDoor
open Go.RowKit Go.Shelf
attribute [local go_sem] store_one S_match S_store Oper.semAt_some

theorem eql_flds (a b c d : List UInt8) (w : World) : (binOp .eql 23 (.agg #[S a, S b]) (.agg #[S c, S d])).run Tryd.prog w = .ok (.bool (a == c && b == d)) w := by
  unfold S
  simp [go_sem, run_eql_struct]
  by_cases h1 : a = c <;> by_cases h2 : b = d <;> simp [h1, h2]
theorem neq_flds (a b : List UInt8) (w : World) : (binOp .neq 23 (.agg #[S a, S b]) (.agg #[S a, S b])).run Tryd.prog w = .ok (.bool false) w := by
  unfold S
  simp [go_sem, run_neq_struct]
/-- The answer's box, as it was, and all else below. -/
def Ok (w : World) (W : World) : Prop := Row W w.heap.size #[.bool false] 4 ∧ Below w.heap.size w W
theorem Ok.below {w W W' : World} (h : Ok w W) (hb : Below W.heap.size W W') : Ok w W' := ⟨h.1.below hb h.1.lt, h.2.trans (hb.mono h.2.size)⟩
theorem Ok.grown {w W W' : World} {row : Option Nat} (h : Ok w W) (hg : W.grownBy W' row) (hr : ∀ k, row = some k → w.heap.size + 1 ≤ k) : Ok w W' :=
  ⟨row_grown h.1 hg (fun e => by have := hr _ e.symm; omega), h.2.grown hg h.2.size (fun k e => by have := hr k e; omega)⟩
theorem ok_end {w W : World} {D : Nat} {tmps : Array Value} (h : Ok w W) (hd : W.heap[D]? = some (.deferred (some []))) (hD : w.heap.size + 1 ≤ D)
    (ht : tmps[4]? = some (.pointer (some ⟨w.heap.size, 0, none⟩))) (v : Bool) (hv : v = true) :
    bodyPostM Fence.wide 5 Tryd.prog Tryd.f4 (fun e w' => e = .returned (.bool true) ∧ Below w.heap.size w w') .ret { tmps := tmps, defers := [{ target := .collected D, args := #[] }] } (W.setCell ⟨w.heap.size, 0, none⟩ (.bool v)) := by
  subst hv
  obtain ⟨ha, hb⟩ := h
  have ca := cell_of_row W _ 0 _ 4 (0, 0) ha
  have k2 : (W.setCell ⟨w.heap.size, 0, none⟩ (.bool true)).heap[D]? = some (.deferred (some [])) := (Below.heap_setCell _ _ _ _ (by show D ≠ w.heap.size; omega)).trans hd
  refine ⟨by simp, .inl ⟨_, _, rfl, run_takeDeferred k2, ?_⟩⟩
  have hc0 : (W.setCell ⟨w.heap.size, 0, none⟩ (.bool true)).cell? ⟨w.heap.size, 0, none⟩ = some (.bool true) := World.cell?_setCell_same _ _ _ ca
  have hc : ((W.setCell ⟨w.heap.size, 0, none⟩ (.bool true)).putObj D (.deferred none)).cell? ⟨w.heap.size, 0, none⟩ = some (.bool true) :=
    cell_kept hc0 (grownBy_putObj' _ _ (.deferred none)) (fun r e => by cases e; exact ⟨_, k2, rfl⟩)
  have hsz := hb.size
  refine ⟨.bool true, ?_, rfl, (hb.setCell (p := ⟨w.heap.size, 0, none⟩) (Nat.le_refl _) _).grown (grownBy_putObj' _ _ _) (by simpa [World.setCell] using hsz) (fun k e => by cases e; omega)⟩
  simp [results, Tryd.f4, go_sem, hc, ht]
theorem own_slice {b : Nat} {v : Value} {xs : List Value} {w : World} (h : Own b v xs w) : ∃ a n c, v = .slice a n c := by
  rcases h with ⟨rfl, _⟩ | ⟨g, cap, rfl, _⟩
  · exact ⟨_, _, _, rfl⟩
  · exact ⟨_, _, _, rfl⟩
theorem list_next {α : Type} {l pre : List α} {x : α} (h : pre ++ [x] <+: l) : l[pre.length]? = some x := by
  obtain ⟨t, rfl⟩ := h
  rw [List.append_assoc, List.getElem?_append_right (Nat.le_refl _), Nat.sub_self]; rfl
set_option maxRecDepth 100000 in
set_option maxHeartbeats 4000000 in
theorem reads_any (F : FieldI) (s t : List UInt8) (_hs : s.length ≤ maxLen) (_ht : t.length ≤ maxLen) (w : World) :
    Calls Tryd.prog 4 #[S s, S t] w fun e w' => e = .returned (.bool true) ∧ Below w.heap.size w w' := by
  have hlenS := run_len_S (P := Tryd.prog) Tryd.underlying9 3 s
  have hlenT := run_len_S (P := Tryd.prog) Tryd.underlying9 3 t
  refine (callsIn_wide (n := 5)).1 (callsIn_of_wp_marks Tryd.func4 rfl trivial ?_ rfl)
  simp only [Tryd.ntmps4, List.size_toArray, List.length_cons, List.length_nil, Nat.reduceAdd, Nat.reduceSub, Array.replicate_succ, Array.replicate_zero, List.push_toArray, List.append_toArray, List.nil_append, List.cons_append]
  rw [wpIn_wide]
  go_wp2_with fail
  refine (awake_any F _).mono ?_
  rintro e W1 ⟨rfl, hB⟩
  have hans : Row W1 w.heap.size #[.bool false] 4 := (row_new w #[.bool false] 4).below hB (by simp)
  have HB := Lib.hid (And.intro hans (((Below.refl w.heap.size w).alloc (Nat.le_refl _) (.cells #[.bool false] 4)).trans (hB.mono (by simp))))
  have ca := cell_of_row W1 _ 0 _ 4 (0, 0) hans
  have fa := Row.frozen hans 0
  clear hB hans
  by_cases hS3 : 3000 < s.length
  · have j1 : decide ((3000 : Int) < (s.length : Int)) = true := decide_eq_true (by omega)
    have hc5 : (W1.setCell ⟨w.heap.size, 0, none⟩ (.bool true)).cell? ⟨w.heap.size, 0, none⟩ = some (.bool true) := World.cell?_setCell_same _ _ _ ca
    go_wp2
    refine ⟨.bool true, ?_, rfl, HB.out.2.setCell (p := ⟨w.heap.size, 0, none⟩) (Nat.le_refl _) _⟩
    simp [results, Tryd.f4, go_sem, hc5]
  have j1 : decide ((3000 : Int) < (s.length : Int)) = false := decide_eq_false (by omega)
  by_cases hT3 : 3000 < t.length
  · have j2 : decide ((3000 : Int) < (t.length : Int)) = true := decide_eq_true (by omega)
    have hc5 : (W1.setCell ⟨w.heap.size, 0, none⟩ (.bool true)).cell? ⟨w.heap.size, 0, none⟩ = some (.bool true) := World.cell?_setCell_same _ _ _ ca
    go_wp2
    refine ⟨.bool true, ?_, rfl, HB.out.2.setCell (p := ⟨w.heap.size, 0, none⟩) (Nat.le_refl _) _⟩
    simp [results, Tryd.f4, go_sem, hc5]
  have j2 : decide ((3000 : Int) < (t.length : Int)) = false := decide_eq_false (by omega)
  clear ca fa _hs _ht
  have hs1 : s.length ≤ 100000 := by omega
  have ht1 : t.length ≤ 100000 := by omega
  have HL := Lib.hid (And.intro hs1 ht1)
  clear hS3 hT3
  obtain ⟨p1, p2, p3, hp⟩ : ∃ p1 p2 p3, parseF s = (p1, p2, p3) := ⟨_, _, _, rfl⟩
  have HP : Hid (∀ W, (Calls Tryd.prog 10 #[S s] W fun e w' => e = .returned (.tuple #[.agg #[S p1, S p2], .bool p3]) ∧ Below W.heap.size W w') ∧ (Calls Tryd.prog 17 #[S s] W fun e w' => e = .returned (.tuple #[.agg #[S p1, S p2], .bool p3]) ∧ Below W.heap.size W w')) := Lib.hid fun W => by
    have h1 := F.parse s W hs1
    have h2 := parse_any s hs1 W
    rw [hp] at h1 h2
    exact ⟨h1, h2⟩
  clear hp hs1 ht1
  go_wp2_with fail
  refine (HP.out _).1.mono ?_
  rintro e W2 ⟨rfl, hB⟩
  obtain ⟨b5, hb5⟩ : ∃ b5, b5 = W2.heap.size := ⟨_, rfl⟩
  obtain ⟨W2', hW2⟩ : ∃ W2', W2' = W2.alloc (.cells #[S p1, S p2] 23) := ⟨_, rfl⟩
  have hb2 : Below W2.heap.size W2 W2' := by rw [hW2]; exact (Below.refl _ W2).alloc (Nat.le_refl _) _
  have hr5 : Row W2' b5 #[S p1, S p2] 23 := by rw [hW2, hb5]; exact row_new W2 _ _
  have hA := (HB.out.1.below hB HB.out.1.lt).below hb2 (by have := HB.out.1.lt; have := hB.size; omega)
  have hBw : Below w.heap.size w W2' := (HB.out.2.trans (hB.mono HB.out.2.size)).trans (hb2.mono (by have := HB.out.2.size; have := hB.size; omega))
  have hlt5 : w.heap.size < b5 := by have := HB.out.1.lt; have := hB.size; omega
  have H2 := Lib.hid (And.intro hA (And.intro hr5 (And.intro hBw hlt5)))
  clear hA hr5 hBw hlt5 hb2 hB HB
  go_wp2_with fail
  rw [← hb5, ← hW2]
  clear hb5 hW2
  refine (HP.out _).2.mono ?_
  rintro e W3 ⟨rfl, hB⟩
  obtain ⟨b7, hb7⟩ : ∃ b7, b7 = W3.heap.size := ⟨_, rfl⟩
  obtain ⟨W4, hW4⟩ : ∃ W4, W4 = W3.alloc (.cells #[S p1, S p2] 23) := ⟨_, rfl⟩
  have hb4 : Below W3.heap.size W3 W4 := by rw [hW4]; exact (Below.refl _ W3).alloc (Nat.le_refl _) _
  have hr7 : Row W4 b7 #[S p1, S p2] 23 := by rw [hW4, hb7]; exact row_new W3 _ _
  have hA := (H2.out.1.below hB H2.out.1.lt).below hb4 (by have := H2.out.1.lt; have := hB.size; omega)
  have hr5 := (H2.out.2.1.below hB H2.out.2.1.lt).below hb4 (by have := H2.out.2.1.lt; have := hB.size; omega)
  have hBw : Below w.heap.size w W4 := (H2.out.2.2.1.trans (hB.mono H2.out.2.2.1.size)).trans (hb4.mono (by have := H2.out.2.2.1.size; have := hB.size; omega))
  have H4 := Lib.hid (And.intro hA hBw)
  have c50 : (W3.alloc (.cells #[S p1, S p2] 23)).cell? ⟨b5, 0, none⟩ = some (S p1) := by rw [← hW4]; exact cell_of_row W4 _ 0 _ 23 (0, 0) hr5
  have c51 : (W3.alloc (.cells #[S p1, S p2] 23)).cell? ⟨b5, 1, none⟩ = some (S p2) := by rw [← hW4]; exact cell_of_row W4 _ 1 _ 23 (0, 0) hr5
  clear hA hr5 hr7 hBw hb4 hB H2
  have hne := neq_flds p1 p2
  have HQ : Hid (∀ W, (Calls Tryd.prog 15 #[S s] W fun e w' => e = .returned (.bool (tokF s)) ∧ Below W.heap.size W w') ∧ (Calls Tryd.prog 18 #[S s] W fun e w' => e = .returned (.bool (tokF s)) ∧ Below W.heap.size W w') ∧
      (Calls Tryd.prog 16 #[S s, S t] W fun e w' => e = .returned (.bool (alikeF s t)) ∧ Below W.heap.size W w') ∧ (Calls Tryd.prog 19 #[S s, S t] W fun e w' => e = .returned (.bool (alikeF s t)) ∧ Below W.heap.size W w') ∧
      (Calls Tryd.prog 14 #[S s, S t] W fun e w' => e = .returned (.bool (hasF s t)) ∧ Below W.heap.size W w') ∧ (Calls Tryd.prog 20 #[S s, S t] W fun e w' => e = .returned (.bool (hasF s t)) ∧ Below W.heap.size W w')) := Lib.hid fun W =>
    ⟨F.token s W HL.out.1, (token_any s HL.out.1 W).mono (by rintro e w' ⟨h, rfl⟩; exact ⟨h, Below.refl _ _⟩), F.alike s t W HL.out.1 HL.out.2, (alike_any s t HL.out.1 HL.out.2 W).mono (by rintro e w' ⟨h, hd⟩; exact ⟨h, hd.below⟩), F.has s t W HL.out.1 HL.out.2, has_any s t HL.out.1 HL.out.2 W⟩
  have hqq : ∀ x : Bool, (x != x) = false := fun x => by cases x <;> rfl
  have hbb : ∀ (x : Bool) w, (binOp .neq 4 (.bool x) (.bool x)).run Tryd.prog w = .ok (.bool false) w := fun x w => by cases x <;> rfl
  go_wp2_with fail
  rw [← hb7, ← hW4]
  have H4 : Hid (Ok w W4) := Lib.hid H4.out
  clear c50 c51 hne hb7 hW4
  refine (HQ.out _).1.mono ?_
  rintro e W5 ⟨rfl, hB⟩
  have H5 : Hid (Ok w W5) := Lib.hid (Ok.below H4.out hB)
  clear hB H4
  go_wp2_with fail
  refine (HQ.out _).2.1.mono ?_
  rintro e W6 ⟨rfl, hB⟩
  have H6 : Hid (Ok w W6) := Lib.hid (Ok.below H5.out hB)
  clear hB H5
  go_wp2_with fail
  refine (HQ.out _).2.2.1.mono ?_
  rintro e W7 ⟨rfl, hB⟩
  have H7 : Hid (Ok w W7) := Lib.hid (Ok.below H6.out hB)
  clear hB H6
  go_wp2_with fail
  refine (HQ.out _).2.2.2.1.mono ?_
  rintro e W8 ⟨rfl, hB⟩
  have H8 : Hid (Ok w W8) := Lib.hid (Ok.below H7.out hB)
  clear hB H7
  go_wp2_with fail
  refine (HQ.out _).2.2.2.2.1.mono ?_
  rintro e W9 ⟨rfl, hB⟩
  have H9 : Hid (Ok w W9) := Lib.hid (Ok.below H8.out hB)
  clear hB H8
  go_wp2_with fail
  refine (HQ.out _).2.2.2.2.2.mono ?_
  rintro e W10 ⟨rfl, hB⟩
  have H10 : Hid (Ok w W10) := Lib.hid (Ok.below H9.out hB)
  clear hB H9
  go_wp2_with fail
  refine (parts_any s HL.out.1 _).mono ?_
  rintro e W11 ⟨v, rfl, ho, hB⟩
  obtain ⟨va, vn, vc, rfl⟩ := own_slice ho
  obtain ⟨b9, hb9⟩ : ∃ b9, b9 = W11.heap.size := ⟨_, rfl⟩
  obtain ⟨W12, hW12⟩ : ∃ W12, W12 = (W11.alloc (.cells #[.slice va vn vc] 34)).alloc (.cells #[.int .i64 0] 3) := ⟨_, rfl⟩
  have hb12 : Below W11.heap.size W11 W12 := by rw [hW12]; exact ((Below.refl _ W11).alloc (Nat.le_refl _) _).alloc (by simp) _
  have hr9 : Row W12 b9 #[.slice va vn vc] 34 := by rw [hW12, hb9]; exact (row_new W11 _ _).alloc _
  have hr10 : Row W12 (b9 + 1) #[.int .i64 0] 3 := by
    rw [hW12, hb9]
    have := row_new (W11.alloc (.cells #[.slice va vn vc] 34)) #[.int .i64 0] 3
    rw [alloc_size] at this; exact this
  have hz12 : W12.heap.size = b9 + 2 := by rw [hW12, hb9]; simp
  have hok : Ok w W12 := (Ok.below H10.out hB).below hb12
  have hown : Own W10.heap.size (.slice va vn vc) ((partsF s).map S) W12 := ho.of_block hb12.size (fun k hk => hb12.block k (ho.lt k hk).2)
  have hvb : ∀ k, (Value.slice va vn vc).ownBlock = some k → w.heap.size + 1 ≤ k ∧ k < b9 := fun k hk => by have := ho.lt k hk; have := H10.out.1.lt; omega
  have hlo : w.heap.size + 1 ≤ b9 := by have := H10.out.1.lt; have := hB.size; omega
  have hcnt : (partsF s).length ≤ 100001 := by have := pts_count s []; have := HL.out.1; show (ptsF [] s).length ≤ _; omega
  have H12 := Lib.hid (And.intro hok (And.intro hr9 (And.intro hr10 (And.intro hown (And.intro hvb (And.intro hlo hz12))))))
  have hnl : ∀ (f : Fn) (x y : Array Value) w, (binOp .eql 27 (.func f x y) .nilFunc).run Tryd.prog w = .ok (.bool false) w := fun f x y w => eql_nilFunc Tryd.underlying27 _ _ _ w
  clear hB ho hb12 hr9 hr10 hok hown hvb hlo H10 hz12
  go_wp2_with fail
  rw [← hb9, ← hW12]
  clear hb9 hW12
  refine (F.each s _ HL.out.1).mono ?_
  rintro e W13 ⟨gf3, lb3, _, _, rfl, hB, _⟩
  have H13 := Lib.hid (And.intro (Ok.below H12.out.1 hB) (And.intro (H12.out.2.1.below hB H12.out.2.1.lt) (And.intro (H12.out.2.2.1.below hB H12.out.2.2.1.lt) (And.intro (H12.out.2.2.2.1.of_block hB.size (fun k hk => hB.block k (H12.out.2.2.2.1.lt k hk).2)) hB.size))))
  clear hB
  go_wp2_with fail
  refine (F.each s _ HL.out.1).mono ?_
  rintro e W14 ⟨gf, lb, K, Kb, rfl, hB, hKb, eg, hseq⟩
  have hKb2 : ∀ r, Kb r → b9 + 2 ≤ r ∧ r < W14.heap.size := fun r hr => by have := hKb r hr; have := H13.out.2.2.2.2; have := H12.out.2.2.2.2.2.2; omega
  have H14 := Lib.hid (And.intro (Ok.below H13.out.1 hB) (And.intro (H13.out.2.1.below hB H13.out.2.1.lt) (And.intro (H13.out.2.2.1.below hB H13.out.2.2.1.lt) (And.intro (H13.out.2.2.2.1.of_block hB.size (fun k hk => hB.block k (H13.out.2.2.2.1.lt k hk).2)) hKb2))))
  have hz14 : b9 + 2 ≤ W14.heap.size := by have := hB.size; have := H13.out.2.2.2.2; have := H12.out.2.2.2.2.2.2; omega
  clear hB hKb hKb2 H13
  go_wp2
  rw [← wpIn_wide (n := 5)]
  have hlo := H12.out.2.2.2.2.2.1
  refine wpIn_rangeFunc_L2 (gf := gf) (lb := lb) rfl eg hseq (fun r hr => (H14.out.2.2.2.2 r hr).2) (fun W hb => hb) (fun _ => rfl)
    (fun pre W => Ok w W ∧ Row W b9 #[.slice va vn vc] 34 ∧ Row W (b9 + 1) #[.int .i64 (pre.length : Int)] 3 ∧ Own W10.heap.size (.slice va vn vc) ((partsF s).map S) W) (fun _ _ _ => False)
    ?hI (fun _ _ _ _ _ hs _ _ => hs) ⟨H14.out.1, H14.out.2.1, H14.out.2.2.1, H14.out.2.2.2.1⟩ ?round ?done ?stop
  case hI =>
    rintro pre W W' row ⟨h1, h2, h3, h4⟩ hg hr
    exact ⟨h1.grown hg (fun k e => by have := hr k e; omega), row_grown h2 hg (fun e => by have := hr _ e.symm; omega), row_grown h3 hg (fun e => by have := hr _ e.symm; omega), h4.grown hg (fun k hk e => by have := hr k e.symm; have := H12.out.2.2.2.2.1 k hk; omega)⟩
  case round =>
    intro l pre x W1 Kc hpx hKc
    unfold encS
    gi_wp2
    rintro W ⟨h1, h2, h3, h4⟩ hsz
    have hx := list_next hpx
    have hxl : pre.length < (partsF s).length := (List.getElem?_eq_some_iff.1 hx).1
    obtain ⟨ad, hix, hcl⟩ := own_cells h4 Tryd.underlying34 (fun w => Tryd.sizeOf9 w)
    rw [List.length_map] at hix hcl
    have hixp := hix pre.length hxl
    have hcp : W.cell? (ad pre.length) = some (S x) := by rw [(hcl pre.length hxl).2.2.1, List.getElem?_map, hx]; rfl
    have hlen := own_len h4 34 9 3 Tryd.underlying34
    rw [List.length_map] at hlen
    have c9 := cell_of_row W _ 0 _ 34 (0, 0) h2
    have c10 := cell_of_row W _ 0 _ 3 (0, 0) h3
    have f10 := Row.frozen h3 0
    have hge : decide (((partsF s).length : Int) ≤ (pre.length : Int)) = false := decide_eq_false (by omega)
    have hge' : decide ((partsF s).length ≤ pre.length) = false := decide_eq_false (by omega)
    have hneq : binOp .neq 9 (S x) (S x) = pure (.bool false) := by rw [neql_S]; simp
    have hgd := nguard_S 9
    have hpl : pre.length < 100001 := by omega
    have hw1 : IntKind.i64.wrap ((pre.length : Int) + 1) = (pre.length : Int) + 1 := by rw [IntKind.wrap_i64]; omega
    have e1 : (pre ++ [x]).length = pre.length + 1 := by rw [List.length_append, List.length_singleton]
    have HI := Lib.hid (And.intro h1 (And.intro h2 (And.intro h3 (And.intro h4 e1))))
    clear h1 h2 h3 h4 hx hpx hxl hix hcl e1
    generalize (partsF s).length = L at *
    generalize ad pre.length = adp at *
    gi_wp2
    obtain ⟨h1, h2, h3, h4, e1⟩ := HI.out
    have hg := grown_cell W (b9 + 1) 0 (.int .i64 ((pre.length : Int) + 1))
    refine ⟨⟨hg.size, fun r hr => hg.block r ?_ (fun e => ?_)⟩, h1.grown hg (fun k e => by have := Option.some.inj e; omega), row_grown h2 hg (fun e => by have := Option.some.inj e; omega), ?_, h4.grown hg (fun k hk e => by have := Option.some.inj e; have := H12.out.2.2.2.2.1 k hk; omega)⟩
    · rcases hr with hr | hr
      · have := H14.out.2.2.2.2 r hr; omega
      · omega
    · have e := Option.some.inj e
      rcases hr with hr | hr
      · have := H14.out.2.2.2.2 r hr; omega
      · omega
    · rw [e1]; exact h3.set 0 _
  case done =>
    rintro W ⟨h1, h2, h3, h4⟩ hK
    have c9 := cell_of_row W _ 0 _ 34 (0, 0) h2
    have c10 := cell_of_row W _ 0 _ 3 (0, 0) h3
    have hlen := own_len h4 34 9 3 Tryd.underlying34
    rw [List.length_map] at hlen
    have ca := cell_of_row W _ 0 _ 4 (0, 0) h1.1
    have fa := Row.frozen h1.1 0
    have hq : (((partsF s).length : Int) == ((partsF s).length : Int)) = true := by simp
    have HI := Lib.hid (And.intro h1 hK)
    clear h1 h2 h3 h4 hK
    generalize (partsF s).length = L at *
    go_wp2
    exact ok_end HI.out.1 HI.out.2 (by omega) rfl true rfl
  case stop => exact fun c pre W hpre h hK => h.elim
end Go.Proofs.YtccccpbaolegcaaDoor
