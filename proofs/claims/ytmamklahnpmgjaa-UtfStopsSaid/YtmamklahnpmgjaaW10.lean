/- The walk of UtfReads. -/
import Derived.Test.YtmamklahnpmgjaaM2
namespace Go.Proofs.Ytmamklahnpmgjaa
open Go.RowKit Go.Shelf
attribute [local go_sem] store_one Oper.semAt_some

theorem readsV_feed (s : List UInt8) : readsV (reads s 0) = .tuple #[.int .i64 ((feed Chk.start s).n : Int), .bool (feed Chk.start s).bad, .bool (feed Chk.start s).whole] := by
  rw [reads_feed]; rfl

theorem own_slice {w : World} {base : Nat} {v : Value} {xs : List Value} (h : Own base v xs w) : ∃ a n c, v = .slice a n c := by
  rcases h with ⟨rfl, _⟩ | ⟨g, cap, rfl, _⟩
  · exact ⟨none, 0, 0, rfl⟩
  · exact ⟨_, _, _, rfl⟩
theorem list_at {α : Type} {pre L : List α} {x : α} (h : pre ++ [x] <+: L) : L[pre.length]? = some x := by
  obtain ⟨t, rfl⟩ := h
  simp
theorem num_lt (s : List UInt8) {x : Nat × Nat} (hx : x ∈ chars s) : numAt s x < 67108864 := by
  obtain ⟨a, t, hat, ht, _, _⟩ := chars_bytes hx
  rw [numAt, hat, runeN]
  have := low_small (first (t.length + 1) a.toNat) t t.length (first_le _ _ a.toNat_lt) ht
  rwa [List.take_length] at this
theorem charsF_length : ∀ (r : List UInt8) (i f : Nat) (T : List (UInt8 × UInt8)), (charsF i f T r).length ≤ r.length
  | [], _, _, _ => by simp [charsF]
  | c :: r, i, f, T => by
    cases hn : nextF T c with
    | none => rw [charsF_bad hn]; simp
    | some T' =>
      cases hT : T'.isEmpty with
      | true => rw [charsF_end hn hT]; have := charsF_length r (i + 1) (i + 1) []; simp only [List.length_cons]; omega
      | false => rw [charsF_more hn hT]; have := charsF_length r (i + 1) f T'; simp only [List.length_cons]; omega
theorem chars_length (s : List UInt8) : (chars s).length ≤ s.length := charsF_length s 0 0 []
theorem two_abides {base k : Nat} {pv lv : Value} {ps ls : List Nat} {w : World} (h : Two base pv lv ps ls w) {β : Type} : AbidesIn w.heap.size k (fun (_ : β) W => Two base pv lv ps ls W) :=
  fun _ _ _ _ hs hg hr => ⟨hs.1.grown hg (fun j hj e => by have := hr j e.symm; have := (h.1.lt j hj).2; omega), hs.2.1.grown hg (fun j hj e => by have := hr j e.symm; have := (h.2.1.lt j hj).2; omega), hs.2.2⟩
theorem two_set {base : Nat} {pv lv : Value} {ps ls : List Nat} {w : World} {a : Addr} {v : Value} (h : Two base pv lv ps ls w) (h1 : ∀ k, pv.ownBlock = some k → k ≠ a.block) (h2 : ∀ k, lv.ownBlock = some k → k ≠ a.block) : Two base pv lv ps ls (w.setCell a v) :=
  ⟨h.1.of_block (by simp [World.setCell]) (fun k hk => Below.heap_setCell _ _ _ _ (h1 k hk)), h.2.1.of_block (by simp [World.setCell]) (fun k hk => Below.heap_setCell _ _ _ _ (h2 k hk)), h.2.2⟩
set_option maxRecDepth 100000 in
set_option maxHeartbeats 1000000 in
theorem reads_walk (s : List UInt8) (hs : s.length ≤ 5000) (b v : Bool) (hb : (feed Chk.start s).bad = b) (hv : (feed Chk.start s).whole = v) (w : World) :
    Calls Try.prog 4 #[S s] w fun e w' => e = .returned (.bool true) ∧ Below w.heap.size w w' := by
  have hlenS := run_len_S (P := Try.prog) Try.underlying9 3 s
  have hgt : decide (5000 < (s.length : Int)) = false := decide_eq_false (by omega)
  have hr := readsV_feed s
  rw [hb, hv] at hr
  have htx : textB s = v := hv
  have HR := Lib.hid (And.intro hr (And.intro hb (And.intro hv htx)))
  clear hr hb hv htx
  refine (callsIn_wide (n := 5)).1 (callsIn_of_wp_marks Try.func4 rfl trivial ?_ rfl)
  simp only [Try.ntmps4, List.size_toArray, List.length_cons, List.length_nil, Nat.reduceAdd, Nat.reduceSub, Array.replicate_succ, Array.replicate_zero, List.push_toArray, List.append_toArray, List.nil_append, List.cons_append]
  cases b <;> cases v
  all_goals
    gi_wp2_with fail
    refine ⟨trivial, (callsIn_wide.2 (awake_any _)).mono ?_⟩
    rintro e W1 ⟨rfl, hB1⟩
    have hr2 : Row W1 w.heap.size #[.bool false] 4 := (row_new w #[.bool false] 4).below hB1 (by simp)
    have H1 := Lib.hid (And.intro hr2 (((Below.refl _ w).alloc (Nat.le_refl _) (.cells #[.bool false] 4)).trans (hB1.mono (by simp))))
    clear hr2 hB1
    gi_wp2_with fail
    refine ⟨trivial, (callsIn_wide.2 (reads_any s (by omega) W1)).mono ?_⟩
    rintro e W2 ⟨rfl, hB2⟩
    rw [HR.out.1]
    have H2 := Lib.hid (And.intro (H1.out.1.below hB2 H1.out.1.lt) (H1.out.2.trans (hB2.mono H1.out.2.size)))
    clear hB2 H1
    gi_wp2_with fail
    refine ⟨trivial, (callsIn_wide.2 (new_any W2)).mono ?_⟩
    rintro e W3 ⟨rfl, hC3, hB3⟩
    have H3 := Lib.hid (And.intro (H2.out.1.below hB3 H2.out.1.lt) (H2.out.2.trans (hB3.mono H2.out.2.size)))
    have HC3 := Lib.hid hC3
    have h2s := H2.out.2.size
    have hlt2 := H2.out.1.lt
    clear hB3 hC3 H2
    obtain ⟨g, hg⟩ : ∃ g, g = W2.heap.size := ⟨_, rfl⟩
    rw [← hg] at HC3 h2s hlt2
    rw [← hg]
    clear hg
    gi_wp2_with fail
    refine ⟨trivial, (callsIn_wide.2 (feed_any s Chk.start g W3 HC3.out (by rw [show Chk.start.n = 0 from rfl]; omega))).mono ?_⟩
    rintro e W4 ⟨rfl, hC4, hK4⟩
    rw [HR.out.2.1]
    have H4 := Lib.hid (And.intro (H3.out.1.keeps hK4 (by omega)) (H3.out.2.trans (hK4.below H3.out.2.size h2s)))
    have HC4 := Lib.hid hC4
    clear hC4 hK4 H3 HC3
    gi_wp2_with fail
    refine ⟨trivial, (callsIn_wide.2 (bad_any _ g W4 HC4.out)).mono ?_⟩
    rintro e W4 ⟨rfl, rfl⟩
    rw [HR.out.2.1]
    gi_wp2_with fail
    refine ⟨trivial, (callsIn_wide.2 (whole_any _ g _ HC4.out)).mono ?_⟩
    rintro e W4 ⟨rfl, rfl⟩
    rw [HR.out.2.2.1]
    gi_wp2_with fail
    refine ⟨trivial, (callsIn_wide.2 (at_any _ g _ HC4.out)).mono ?_⟩
    rintro e W4 ⟨rfl, rfl⟩
    gi_wp2_with fail
    refine ⟨trivial, (callsIn_wide.2 (valid_any s (by omega) _)).mono ?_⟩
    rintro e W5 ⟨rfl, hB5⟩
    rw [HR.out.2.2.2]
    have H5 := Lib.hid (And.intro (H4.out.1.below hB5 H4.out.1.lt) (H4.out.2.trans (hB5.mono H4.out.2.size)))
    clear hB5 H4 HC4
    gi_wp2_with fail
    refine ⟨trivial, (callsIn_wide.2 (runes_any s (by omega) _)).mono ?_⟩
    rintro e W6 ⟨pv, lv, rfl, hT6, hB6⟩
    have H6 := Lib.hid (And.intro (H5.out.1.below hB6 H5.out.1.lt) (H5.out.2.trans (hB6.mono H5.out.2.size)))
    rw [runes_are] at hT6
    obtain ⟨pa, pn, pc, rfl⟩ := own_slice hT6.1
    obtain ⟨la, ln, lc, rfl⟩ := own_slice hT6.2.1
    have HT6 := Lib.hid hT6
    clear hB6 H5 hT6
    have hnl : ∀ (bb : Nat) w, (binOp .eql 33 (.func (.func 24) #[] #[.pointer (some ⟨bb, 0, none⟩)]) .nilFunc).run Try.prog w = .ok (.bool false) w := fun bb w => eql_nilFunc Try.underlying33 _ _ _ w
    gi_wp2_with fail
    refine ⟨trivial, (callsIn_wide.2 (runesFn_any s _)).mono ?_⟩
    rintro e W7 ⟨rfl, rfl⟩
    gi_wp2_with fail
    refine ⟨trivial, (callsIn_wide.2 (runesFn_any s _)).mono ?_⟩
    rintro e W8 ⟨rfl, rfl⟩
    obtain ⟨n6, hn6⟩ : ∃ n, n = W6.heap.size := ⟨_, rfl⟩
    obtain ⟨W9, hW9⟩ : ∃ W, W = ((((W6.alloc (.cells #[.slice pa pn pc] 29)).alloc (.cells #[.slice la ln lc] 29)).alloc (.cells #[.int .i64 0] 3)).alloc (.cells #[S s] 9)).alloc (.cells #[S s] 9) := ⟨_, rfl⟩
    have hz9 : W9.heap.size = n6 + 5 := by rw [hW9, hn6]; simp
    have hB9 : Below W6.heap.size W6 W9 := by
      rw [hW9]; exact (((((Below.refl _ _).alloc (Nat.le_refl _) _).alloc (by simp) _).alloc (by simp; omega) _).alloc (by simp; omega) _).alloc (by simp; omega) _
    have r7 : Row W9 n6 #[.slice pa pn pc] 29 := by
      rw [hW9, hn6]; unfold Row; repeat (first | exact alloc_at _ _ _ (by simp) | refine alloc_at_old _ _ _ _ ?_)
    have r8 : Row W9 (n6 + 1) #[.slice la ln lc] 29 := by
      rw [hW9, hn6]; unfold Row; repeat (first | exact alloc_at _ _ _ (by simp) | refine alloc_at_old _ _ _ _ ?_)
    have r9 : Row W9 (n6 + 2) #[.int .i64 0] 3 := by
      rw [hW9, hn6]; unfold Row; repeat (first | exact alloc_at _ _ _ (by simp) | refine alloc_at_old _ _ _ _ ?_)
    have rS : Row W9 (n6 + 4) #[S s] 9 := by
      rw [hW9, hn6]; unfold Row; repeat (first | exact alloc_at _ _ _ (by simp) | refine alloc_at_old _ _ _ _ ?_)
    have hb2 : w.heap.size < n6 := by rw [hn6]; exact H6.out.1.lt
    have hsz : ((((W6.alloc (.cells #[.slice pa pn pc] 29)).alloc (.cells #[.slice la ln lc] 29)).alloc (.cells #[.int .i64 0] 3)).alloc (.cells #[S s] 9)).heap.size = n6 + 4 := by rw [hn6]; simp
    rw [hsz, ← hW9, ← hn6]
    have H9 := Lib.hid (And.intro (H6.out.1.below hB9 H6.out.1.lt) (And.intro r7 (And.intro r8 (And.intro r9 (And.intro rS (And.intro (HT6.out.below hB9) (H6.out.2.trans (hB9.mono H6.out.2.size))))))))
    have ho1 : ∀ k, (Value.slice pa pn pc).ownBlock = some k → k < n6 := fun k hk => by rw [hn6]; exact (HT6.out.1.lt k hk).2
    have ho2 : ∀ k, (Value.slice la ln lc).ownBlock = some k → k < n6 := fun k hk => by rw [hn6]; exact (HT6.out.2.1.lt k hk).2
    have HO := Lib.hid (And.intro ho1 ho2)
    clear ho1 ho2 hW9 hB9 r7 r8 r9 rS hsz hn6 H6 HT6
    gi_wp2
    refine wpIn_rangeFunc_L2 (gf := 24) (lb := #[.pointer (some ⟨n6 + 4, 0, none⟩)]) rfl (enters_of Try.func24 (by kernel_rfl) rfl)
      (fun m => runes_seq s (by omega) (n6 + 4) m) (fun r e => by omega) (fun W hb => H9.out.2.2.2.2.1.below hb (by omega)) (fun _ => rfl)
      (fun pre W => Row W (n6 + 2) #[.int .i64 (pre.length : Int)] 3 ∧ Row W w.heap.size #[.bool false] 4 ∧ Row W n6 #[.slice pa pn pc] 29 ∧ Row W (n6 + 1) #[.slice la ln lc] 29 ∧
        Two W5.heap.size (.slice pa pn pc) (.slice la ln lc) ((chars s).map (·.1)) ((chars s).map (numAt s)) W ∧ Below w.heap.size w W)
      (fun _ _ _ => False)
      ((abidesIn_block (fun _ => _) (.inl (by omega))).and ((abidesIn_block (fun _ => _) (.inl (by omega))).and ((abidesIn_block (fun _ => _) (.inl (by omega))).and ((abidesIn_block (fun _ => _) (.inl (by omega))).and
        ((two_abides H9.out.2.2.2.2.2.1).and (abidesIn_below (by omega)))))))
      (fun _ _ _ _ _ hs _ _ => hs)
      ⟨H9.out.2.2.2.1, H9.out.1, H9.out.2.1, H9.out.2.2.1, H9.out.2.2.2.2.2.1, H9.out.2.2.2.2.2.2⟩
      ?round ?done ?stop
    case round =>
      intro l pre x W1 K hpx hK
      unfold encR
      gi_wp2
      rintro W ⟨h9, h2, h7, h8, hT, hB⟩ hsz
      have hx := list_at hpx
      have hlt : pre.length < (chars s).length := (List.getElem?_eq_some_iff.1 hx).1
      obtain ⟨ad1, hi1, hc1⟩ := own_cells hT.1 Try.underlying29 Try.sizeOf3
      obtain ⟨ad2, hi2, hc2⟩ := own_cells hT.2.1 Try.underlying29 Try.sizeOf3
      rw [List.length_map, List.length_map] at hi1 hc1 hi2 hc2
      replace hi1 := hi1 pre.length hlt
      replace hi2 := hi2 pre.length hlt
      replace hc1 : W.cell? (ad1 pre.length) = some (.int .i64 (x.1 : Int)) := by
        rw [(hc1 pre.length hlt).2.2.1, List.getElem?_map, List.getElem?_map, hx]; rfl
      replace hc2 : W.cell? (ad2 pre.length) = some (.int .i64 (numAt s x : Int)) := by
        rw [(hc2 pre.length hlt).2.2.1, List.getElem?_map, List.getElem?_map, hx]; rfl
      generalize ad1 pre.length = a1 at *
      generalize ad2 pre.length = a2 at *
      have hl1 := own_len hT.1 29 3 3 Try.underlying29
      rw [List.length_map, List.length_map] at hl1
      have hnum := num_lt s (hpx.subset (List.mem_append.2 (.inr (List.mem_singleton.2 rfl))))
      have c9 := h9.cell0
      have c7 := h7.cell0
      have c8 := h8.cell0
      have f9 := h9.frozen 0
      have hge : decide (((chars s).length : Int) ≤ (pre.length : Int)) = false := decide_eq_false (by omega)
      have hpl : pre.length < 5001 := by have := chars_length s; omega
      have HI := Lib.hid (And.intro h9 (And.intro h2 (And.intro h7 (And.intro h8 (And.intro hT hB)))))
      clear h9 h2 h7 h8 hT hB hx hpx
      generalize (chars s).length = L at *
      generalize numAt s x = y at *
      gi_wp2
      obtain ⟨h9, h2, h7, h8, hT, hB⟩ := HI.out
      refine ⟨⟨by simp [World.setCell], fun r h => Below.heap_setCell _ _ _ _ (by show r ≠ n6 + 1 + 1; omega)⟩, ?_, h2.other (by show _ ≠ n6 + 1 + 1; omega), h7.other (by show _ ≠ n6 + 1 + 1; omega), h8.other (by show _ ≠ n6 + 1 + 1; omega),
        two_set hT (fun k hk => by have := HO.out.1 k hk; show k ≠ n6 + 1 + 1; omega) (fun k hk => by have := HO.out.2 k hk; show k ≠ n6 + 1 + 1; omega), hB.setCell (p := ⟨n6 + 1 + 1, 0, none⟩) (by show _ ≤ n6 + 1 + 1; omega) _⟩
      rw [List.length_append, List.length_singleton]
      exact h9.set 0 _
    case done =>
      rintro W ⟨h9, h2, h7, h8, hT, hB⟩ hK
      have hl1 := own_len hT.1 29 3 3 Try.underlying29
      rw [List.length_map, List.length_map] at hl1
      have c9 := h9.cell0
      have c7 := h7.cell0
      have c2 := h2.cell0
      have f2 := h2.frozen 0
      have HI := Lib.hid (And.intro h2 hB)
      clear h9 h2 h7 h8 hT hB
      gi_wp2
      have hK' := (KeepsOthers.setCell W ⟨w.heap.size, 0, none⟩ (.bool true)).same _ _ hK rfl
      refine ⟨by simp, .inl ⟨_, _, rfl, run_takeDeferred hK', ?_⟩⟩
      have hc5 : ((W.setCell ⟨w.heap.size, 0, none⟩ (.bool true)).putObj W9.heap.size (.deferred none)).cell? ⟨w.heap.size, 0, none⟩ = some (.bool true) :=
        cell_kept (World.cell?_setCell_same' W ⟨w.heap.size, 0, none⟩ (.bool true) (by rw [c2]; rfl)) (grownBy_putObj' _ _ (.deferred none)) (fun r e => by cases e; exact ⟨_, hK', rfl⟩)
      refine ⟨.bool true, ?_, rfl, (HI.out.2.setCell (p := ⟨w.heap.size, 0, none⟩) (Nat.le_refl _) _).grown (grownBy_putObj' _ _ _) (by have := HI.out.2.size; simpa [World.setCell] using this) (fun k e => by cases e; omega)⟩
      simp [results, Try.f4, go_sem, hc5]
    case stop =>
      rintro c pre W _ h _
      exact h.elim
theorem reads_law (s : List UInt8) (w : World) : Calls Try.prog 4 #[S s] w fun e w' => e = .returned (.bool true) ∧ Below w.heap.size w w' := by
  by_cases hs : s.length ≤ 5000
  · exact reads_walk s hs _ _ rfl rfl w
  · have hlenS := run_len_S (P := Try.prog) Try.underlying9 3 s
    have hgt : decide (5000 < (s.length : Int)) = true := decide_eq_true (by omega)
    refine (callsIn_wide (n := 5)).1 (callsIn_of_wp_marks Try.func4 rfl trivial ?_ rfl)
    simp only [Try.ntmps4, List.size_toArray, List.length_cons, List.length_nil, Nat.reduceAdd, Nat.reduceSub, Array.replicate_succ, Array.replicate_zero, List.push_toArray, List.append_toArray, List.nil_append, List.cons_append]
    gi_wp2_with fail
    refine ⟨trivial, (callsIn_wide.2 (awake_any _)).mono ?_⟩
    rintro e W1 ⟨rfl, hB1⟩
    have hr2 : Row W1 w.heap.size #[.bool false] 4 := (row_new w #[.bool false] 4).below hB1 (by simp)
    have c2 := hr2.cell0
    have f2 := hr2.frozen 0
    have H1 := Lib.hid (And.intro hr2 (((Below.refl _ w).alloc (Nat.le_refl _) (.cells #[.bool false] 4)).trans (hB1.mono (by simp))))
    clear hr2 hB1
    gi_wp2
    have hc5 : (W1.setCell ⟨w.heap.size, 0, none⟩ (.bool true)).cell? ⟨w.heap.size, 0, none⟩ = some (.bool true) := World.cell?_setCell_same' W1 ⟨w.heap.size, 0, none⟩ (.bool true) (by rw [c2]; rfl)
    refine ⟨.bool true, ?_, rfl, H1.out.2.setCell (p := ⟨w.heap.size, 0, none⟩) (Nat.le_refl _) _⟩
    simp [results, Try.f4, go_sem, hc5]
end Go.Proofs.Ytmamklahnpmgjaa
