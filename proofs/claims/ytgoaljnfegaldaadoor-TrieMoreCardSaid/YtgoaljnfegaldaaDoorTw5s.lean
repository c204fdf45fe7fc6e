/- The landed further of tries of strings walked. -/
import Derived.Test.YtgoaljnfegaldaaDoorTw4s
import Derived.Test.YtgoaljnfegaldaaDoorTw3
import Derived.Test.YtgoaljnfegaldaaDoorFl
namespace Go.Proofs.YtgoaljnfegaldaaDoor
open Go.RowKit
attribute [local go_sem] store_one S_match S_store

theorem elePs : EleK Tryd.prog 84 2 := eleK_of (z := .agg #[.pointer none, .int .i64 0]) (n := 16) (by kernel_rfl) (by omega) rfl
/-- The places so far, and the place that is gone on from, in block pb. -/
structure Furs (w0 : World) (pb : Nat) (pv : Value) (r : Nat) (Vo : Value) (n : Nat) (xs : List Value) (W : World) : Prop where
  own : W.ownsRow w0.heap.size 84 2 Vo n xs
  box : Row W pb #[pv, .int .i64 (r : Int)] 84
  nb : Vo.ownBlock ≠ some pb
  bel : Below w0.heap.size w0 W
theorem Furs.add {w0 : World} {pb : Nat} {pv : Value} {r : Nat} {Vo : Value} {n : Nat} {xs ys : List Value} {W w' : World} (h : Furs w0 pb pv r Vo n xs W) {g cap : Nat} (ho : w'.ownsRow w0.heap.size 84 2 (.slice (some ⟨g, 0, none⟩) (n + 1) cap) (n + 1) (xs ++ ys))
    (hg : W.grownBy w' Vo.ownBlock) (hb : Vo.ownBlock = some g ∨ W.heap.size ≤ g) : Furs w0 pb pv r (.slice (some ⟨g, 0, none⟩) (n + 1) cap) (n + 1) (xs ++ ys) w' :=
  ⟨ho, row_grown h.box hg (Ne.symm h.nb), fun e => by
    have e : g = pb := Option.some.inj e
    have := h.box.lt
    rcases hb with hb | hb
    · exact h.nb (by rw [hb, e])
    · omega, below_grown h.bel hg (fun k hk => (World.ownsRow.lt h.own k hk).1) h.bel.size⟩
/-- What is read at a world. -/
theorem Furs.at_ {w0 : World} {pb : Nat} {r : Nat} {Vo : Value} {n : Nat} {xs : List Value} {W : World} {g : Nat} {R : Nat → Option Role} {N M E : List Key → Option Nat} {C : Nat} {mx : Int} {av : Value} {k : List Key} {b o : Nat} (hN : Nodes w0 g R N M E C mx av) (hk : N k = some b) (ho : o = offK k)
    (h : Furs w0 pb (.pointer (some ⟨b, o, none⟩)) r Vo n xs W) {x : Txt} (hx : x.length ≤ 1000000) : W.cell? ⟨pb, 0, none⟩ = some (.pointer (some ⟨b, o, none⟩)) ∧ W.cell? ⟨pb, 1, none⟩ = some (.int .i64 (r : Int)) ∧
      W.cell? ⟨b, o + 2, none⟩ = some (ptrO (N (k ++ [.rst]))) ∧ W.cell? ⟨b, o + 1, none⟩ = some (ptrO (N (k ++ [.par]))) ∧ W.cell? ⟨b, o, none⟩ = some (mapV (M k)) ∧ (Instr.lookup 50 (mapV (M k)) (S x) false).run Tryd.prog W = .ok (ptrO (N (k ++ [.lit x]))) W := by
  subst ho
  have hn := (hN.below h.bel).node k b hk
  exact ⟨cell_of_row W pb 0 _ _ (0, 0) h.box, cell_of_row W pb 1 _ _ (0, 0) h.box, hn.rst.1, hn.par.1, hn.lits.1, hn.look Tryd.underlying50 zeroNs hx⟩
set_option maxRecDepth 100000 in
set_option maxHeartbeats 2000000 in
theorem furthers_any {w0 : World} {g : Nat} {R : Nat → Option Role} {N M E : List Key → Option Nat} {C : Nat} {mx : Int} {av : Value} (hN : Nodes w0 g R N M E C mx av) (k : List Key) (b r : Nat) (hk : N k = some b) (st : List Plc) (a : Option Addr) (n c : Nat) (hn : n ≤ 900000)
    (path : List Txt) (Vp : Value) (bp op : Nat) (hT : TA w0 Vp path bp op) (x : Txt) (hx : path[r]? = some x) (hxl : x.length ≤ 1000) (hpl : path.length ≤ 12) (w : World) (hB : Below w0.heap.size w0 w) (hO : w.ownsRow w0.heap.size 84 2 (.slice a n c) n (pcells N st)) :
    Calls Tryd.prog 36 #[.agg #[.pointer (some ⟨b, offK k, none⟩), .int .i64 (r : Int)], .slice a n c, Vp] w fun e w' => ∃ a' n' c', e = .returned (.slice a' n' c') ∧
      w'.ownsRow w0.heap.size 84 2 (.slice a' n' c') n' (pcells N (((st ++ onR (domN N) path (k, r)) ++ onP (domN N) (k, r) x) ++ onL (domN N) (k, r) x)) ∧ Below w0.heap.size w0 w' := by
  have hrl : r < path.length := (List.getElem?_eq_some_iff.1 hx).1
  obtain ⟨o, ho⟩ : ∃ o, o = offK k := ⟨_, rfl⟩
  rw [← ho]
  have hF : Furs w0 w.heap.size (.pointer (some ⟨b, o, none⟩)) r (.slice a n c) n (pcells N st) (w.alloc (.cells #[.pointer (some ⟨b, o, none⟩), .int .i64 (r : Int)] 84)) :=
    ⟨own_below hO ((Below.refl _ w).alloc (Nat.le_refl _) _), row_new w _ _, fun e => by have := (World.ownsRow.lt hO _ e).2; omega, hB.trans (((Below.refl _ w).alloc (Nat.le_refl _) _).mono hB.size)⟩
  have hix := fun w' => hT.index r hrl w'
  have hTX : Hid (∀ W, Below w0.heap.size w0 W → W.cell? ⟨bp, op + r, none⟩ = some (S x)) := Lib.hid fun W h => (hT.below h).cell r x hx
  have hlp := fun w' => hT.len 3 w'
  obtain ⟨LP, hLP⟩ : ∃ L, L = path.length := ⟨_, rfl⟩
  rw [← hLP] at hlp
  obtain ⟨q, hq⟩ : ∃ q, q = op + r := ⟨_, rfl⟩
  rw [← hq] at hix hTX
  have HAT : Hid (∀ (Vo : Value) (n : Nat) (xs : List Value) (W : World), Furs w0 w.heap.size (.pointer (some ⟨b, o, none⟩)) r Vo n xs W → W.cell? ⟨w.heap.size, 0, none⟩ = some (.pointer (some ⟨b, o, none⟩)) ∧ W.cell? ⟨w.heap.size, 1, none⟩ = some (.int .i64 (r : Int)) ∧
      W.cell? ⟨b, o + 2, none⟩ = some (ptrO (N (k ++ [.rst]))) ∧ W.cell? ⟨b, o + 1, none⟩ = some (ptrO (N (k ++ [.par]))) ∧ W.cell? ⟨b, o, none⟩ = some (mapV (M k)) ∧ (Instr.lookup 50 (mapV (M k)) (S x) false).run Tryd.prog W = .ok (ptrO (N (k ++ [.lit x]))) W) :=
    Lib.hid fun Vo n xs W h => Furs.at_ hN hk ho h (by omega)
  have hRW : pcells N (((st ++ onR (domN N) path (k, r)) ++ onP (domN N) (k, r) x) ++ onL (domN N) (k, r) x) = ((pcells N st ++ cO (N (k ++ [.rst])) LP) ++ (if x = [] then [] else cO (N (k ++ [.par])) (r + 1))) ++ cO (N (k ++ [.lit x])) (r + 1) := by
    rw [pcells_L]
    by_cases h0 : x = []
    · subst h0
      rw [pcells_P0, pcells_R, if_pos rfl, List.append_nil, hLP]
    · rw [pcells_P _ _ _ h0, pcells_R, if_neg h0, hLP]
  rw [hRW]
  obtain ⟨PO, hPO⟩ : ∃ PO : Ending → World → Prop, PO = fun e w' => ∃ a' n' c', e = .returned (.slice a' n' c') ∧
      w'.ownsRow w0.heap.size 84 2 (.slice a' n' c') n' (((pcells N st ++ cO (N (k ++ [.rst])) LP) ++ (if x = [] then [] else cO (N (k ++ [.par])) (r + 1))) ++ cO (N (k ++ [.lit x])) (r + 1)) ∧ Below w0.heap.size w0 w' := ⟨_, rfl⟩
  rw [← hPO]
  have HPO : Hid (∀ a' n' c' w', w'.ownsRow w0.heap.size 84 2 (.slice a' n' c') n' (((pcells N st ++ cO (N (k ++ [.rst])) LP) ++ (if x = [] then [] else cO (N (k ++ [.par])) (r + 1))) ++ cO (N (k ++ [.lit x])) (r + 1)) → Below w0.heap.size w0 w' → PO (.returned (.slice a' n' c')) w') :=
    Lib.hid fun a' n' c' w' h1 h2 => by rw [hPO]; exact ⟨a', n', c', rfl, h1, h2⟩
  clear hPO
  generalize pcells N st = xs at *
  generalize N (k ++ [.rst]) = NR at *
  generalize N (k ++ [.par]) = NP at *
  generalize N (k ++ [.lit x]) = NL at *
  generalize mapV (M k) = mv at *
  have HF := Lib.hid hF
  have HN := Lib.hid hn
  have hwr : IntKind.i64.wrap ((r : Int) + 1) = ((r + 1 : Nat) : Int) := by rw [IntKind.wrap_i64]; omega
  have n1 : ∀ y z, eqGuard .neq 9 y z (S x) (.string ⟨#[]⟩) = pure () := fun y z => nguard_S 9 y z x []
  have q1 : binOp .neq 9 (S x) (.string ⟨#[]⟩) = pure (.bool (x != [])) := neql_S 9 x []
  obtain ⟨xe, hxe⟩ : ∃ xe : Bool, xe = (x != []) := ⟨_, rfl⟩
  rw [← hxe] at q1
  have HXE : Hid (x = [] ↔ xe = false) := Lib.hid (by rw [hxe, bne_eq_false_iff_eq])
  clear hN hk hT hx hB hO hF hrl hq hRW hxe hLP hn hpl ho hxl
  have f0 := hTX.out _ HF.out.bel
  obtain ⟨f1, f2, f3, f4, f5, f6⟩ := HAT.out _ _ _ _ HF.out
  generalize S x = X at *
  cases NR with
  | none =>
    cases NL with
    | none =>
      cases NP with
      | none =>
        unfold ptrO at *
        have HP2 := HPO.out
        rw [show (if x = [] then [] else cO none (r + 1)) = ([] : List Value) by split <;> rfl] at HP2
        have HP3 := Lib.hid HP2
        clear HP2
        go_enter Tryd.func36, Tryd.ntmps36
        go_wp2
        first
          | (go_ret2; exact HP3.out _ _ _ _ (by simpa [cO] using HF.out.own) HF.out.bel)
          | exact HP3.out _ _ _ _ (by simpa [cO] using HF.out.own) HF.out.bel
      | some np =>
        unfold ptrO at *
        cases xe with
        | false =>
          have HP2 := HPO.out
          rw [if_pos (HXE.out.2 rfl)] at HP2
          have HP3 := Lib.hid HP2
          clear HP2
          go_enter Tryd.func36, Tryd.ntmps36
          go_wp2
          first
            | (go_ret2; exact HP3.out _ _ _ _ (by simpa [cO] using HF.out.own) HF.out.bel)
            | exact HP3.out _ _ _ _ (by simpa [cO] using HF.out.own) HF.out.bel
        | true =>
          have HP2 := HPO.out
          rw [if_neg (fun e => by cases HXE.out.1 e)] at HP2
          have HP3 := Lib.hid HP2
          clear HP2
          go_enter Tryd.func36, Tryd.ntmps36
          go_wp2_with (first
            | (at_builtin; refine wpList_addL rfl 85 84 (.tmp 41) (.tmp 47) rfl Tryd.underlying85 elePs (by decide) w0.heap.size (w.alloc (.cells #[.pointer (some ⟨b, o, none⟩), .int .i64 (r : Int)] 84)) _ rfl n _ HF.out.own #[.pointer (some ⟨np, 0, none⟩), .int .i64 ((r + 1 : Nat) : Int)] rfl (by intro u hu; simp at hu; rcases hu with rfl | rfl <;> rfl) rfl (w.heap.size + 1) (alloc_size _ _) rfl (by have := HN.out; omega) HF.out.bel.size ?_; intro g1 c1 w1 h1 h2 h3 _; have H1 := Lib.hid (HF.out.add h1 h2 h3); obtain ⟨a11, a12, a13, a14, a15, a16⟩ := HAT.out _ _ _ w1 H1.out; clear h1 h2 h3)
            | fail)
          first
            | (go_ret2; exact HP3.out _ _ _ _ (by simpa [cO] using H1.out.own) H1.out.bel)
            | exact HP3.out _ _ _ _ (by simpa [cO] using H1.out.own) H1.out.bel
    | some nl =>
      cases NP with
      | none =>
        unfold ptrO at *
        have HP2 := HPO.out
        rw [show (if x = [] then [] else cO none (r + 1)) = ([] : List Value) by split <;> rfl] at HP2
        have HP3 := Lib.hid HP2
        clear HP2
        go_enter Tryd.func36, Tryd.ntmps36
        go_wp2_with (first
          | (at_builtin; refine wpList_addL rfl 85 84 (.tmp 58) (.tmp 64) rfl Tryd.underlying85 elePs (by decide) w0.heap.size (w.alloc (.cells #[.pointer (some ⟨b, o, none⟩), .int .i64 (r : Int)] 84)) _ rfl n _ HF.out.own #[.pointer (some ⟨nl, 0, none⟩), .int .i64 ((r + 1 : Nat) : Int)] rfl (by intro u hu; simp at hu; rcases hu with rfl | rfl <;> rfl) rfl (w.heap.size + 1) (alloc_size _ _) rfl (by have := HN.out; omega) HF.out.bel.size ?_; intro g1 c1 w1 h1 h2 h3 _; have H1 := Lib.hid (HF.out.add h1 h2 h3); obtain ⟨a11, a12, a13, a14, a15, a16⟩ := HAT.out _ _ _ w1 H1.out; clear h1 h2 h3)
          | fail)
        first
          | (go_ret2; exact HP3.out _ _ _ _ (by simpa [cO] using H1.out.own) H1.out.bel)
          | exact HP3.out _ _ _ _ (by simpa [cO] using H1.out.own) H1.out.bel
      | some np =>
        unfold ptrO at *
        cases xe with
        | false =>
          have HP2 := HPO.out
          rw [if_pos (HXE.out.2 rfl)] at HP2
          have HP3 := Lib.hid HP2
          clear HP2
          go_enter Tryd.func36, Tryd.ntmps36
          go_wp2_with (first
            | (at_builtin; refine wpList_addL rfl 85 84 (.tmp 58) (.tmp 64) rfl Tryd.underlying85 elePs (by decide) w0.heap.size (w.alloc (.cells #[.pointer (some ⟨b, o, none⟩), .int .i64 (r : Int)] 84)) _ rfl n _ HF.out.own #[.pointer (some ⟨nl, 0, none⟩), .int .i64 ((r + 1 : Nat) : Int)] rfl (by intro u hu; simp at hu; rcases hu with rfl | rfl <;> rfl) rfl (w.heap.size + 1) (alloc_size _ _) rfl (by have := HN.out; omega) HF.out.bel.size ?_; intro g1 c1 w1 h1 h2 h3 _; have H1 := Lib.hid (HF.out.add h1 h2 h3); obtain ⟨a11, a12, a13, a14, a15, a16⟩ := HAT.out _ _ _ w1 H1.out; clear h1 h2 h3)
            | fail)
          first
            | (go_ret2; exact HP3.out _ _ _ _ (by simpa [cO] using H1.out.own) H1.out.bel)
            | exact HP3.out _ _ _ _ (by simpa [cO] using H1.out.own) H1.out.bel
        | true =>
          have HP2 := HPO.out
          rw [if_neg (fun e => by cases HXE.out.1 e)] at HP2
          have HP3 := Lib.hid HP2
          clear HP2
          go_enter Tryd.func36, Tryd.ntmps36
          go_wp2_with (first
            | (at_builtin; refine wpList_addL rfl 85 84 (.tmp 41) (.tmp 47) rfl Tryd.underlying85 elePs (by decide) w0.heap.size (w.alloc (.cells #[.pointer (some ⟨b, o, none⟩), .int .i64 (r : Int)] 84)) _ rfl n _ HF.out.own #[.pointer (some ⟨np, 0, none⟩), .int .i64 ((r + 1 : Nat) : Int)] rfl (by intro u hu; simp at hu; rcases hu with rfl | rfl <;> rfl) rfl (w.heap.size + 1) (alloc_size _ _) rfl (by have := HN.out; omega) HF.out.bel.size ?_; intro g1 c1 w1 h1 h2 h3 _; have H1 := Lib.hid (HF.out.add h1 h2 h3); obtain ⟨a11, a12, a13, a14, a15, a16⟩ := HAT.out _ _ _ w1 H1.out; clear h1 h2 h3)
            | (at_builtin; refine wpList_addL rfl 85 84 (.tmp 58) (.tmp 64) rfl Tryd.underlying85 elePs (by decide) w0.heap.size w1 _ rfl (n + 1) _ H1.out.own #[.pointer (some ⟨nl, 0, none⟩), .int .i64 ((r + 1 : Nat) : Int)] rfl (by intro u hu; simp at hu; rcases hu with rfl | rfl <;> rfl) rfl _ rfl rfl (by have := HN.out; omega) H1.out.bel.size ?_; intro g2 c2 w2 h1 h2 h3 _; have H2 := Lib.hid (H1.out.add h1 h2 h3); obtain ⟨a21, a22, a23, a24, a25, a26⟩ := HAT.out _ _ _ w2 H2.out; clear h1 h2 h3)
            | fail)
          first
            | (go_ret2; exact HP3.out _ _ _ _ (by simpa [cO] using H2.out.own) H2.out.bel)
            | exact HP3.out _ _ _ _ (by simpa [cO] using H2.out.own) H2.out.bel
  | some nr =>
    cases NL with
    | none =>
      cases NP with
      | none =>
        unfold ptrO at *
        have HP2 := HPO.out
        rw [show (if x = [] then [] else cO none (r + 1)) = ([] : List Value) by split <;> rfl] at HP2
        have HP3 := Lib.hid HP2
        clear HP2
        go_enter Tryd.func36, Tryd.ntmps36
        go_wp2_with (first
          | (at_builtin; refine wpList_addL rfl 85 84 (.tmp 23) (.tmp 28) rfl Tryd.underlying85 elePs (by decide) w0.heap.size (w.alloc (.cells #[.pointer (some ⟨b, o, none⟩), .int .i64 (r : Int)] 84)) _ rfl n _ HF.out.own #[.pointer (some ⟨nr, 0, none⟩), .int .i64 (LP : Int)] rfl (by intro u hu; simp at hu; rcases hu with rfl | rfl <;> rfl) rfl (w.heap.size + 1) (alloc_size _ _) rfl (by have := HN.out; omega) HF.out.bel.size ?_; intro g1 c1 w1 h1 h2 h3 _; have H1 := Lib.hid (HF.out.add h1 h2 h3); obtain ⟨a11, a12, a13, a14, a15, a16⟩ := HAT.out _ _ _ w1 H1.out; clear h1 h2 h3)
          | fail)
        first
          | (go_ret2; exact HP3.out _ _ _ _ (by simpa [cO] using H1.out.own) H1.out.bel)
          | exact HP3.out _ _ _ _ (by simpa [cO] using H1.out.own) H1.out.bel
      | some np =>
        unfold ptrO at *
        cases xe with
        | false =>
          have HP2 := HPO.out
          rw [if_pos (HXE.out.2 rfl)] at HP2
          have HP3 := Lib.hid HP2
          clear HP2
          go_enter Tryd.func36, Tryd.ntmps36
          go_wp2_with (first
            | (at_builtin; refine wpList_addL rfl 85 84 (.tmp 23) (.tmp 28) rfl Tryd.underlying85 elePs (by decide) w0.heap.size (w.alloc (.cells #[.pointer (some ⟨b, o, none⟩), .int .i64 (r : Int)] 84)) _ rfl n _ HF.out.own #[.pointer (some ⟨nr, 0, none⟩), .int .i64 (LP : Int)] rfl (by intro u hu; simp at hu; rcases hu with rfl | rfl <;> rfl) rfl (w.heap.size + 1) (alloc_size _ _) rfl (by have := HN.out; omega) HF.out.bel.size ?_; intro g1 c1 w1 h1 h2 h3 _; have H1 := Lib.hid (HF.out.add h1 h2 h3); obtain ⟨a11, a12, a13, a14, a15, a16⟩ := HAT.out _ _ _ w1 H1.out; clear h1 h2 h3)
            | fail)
          first
            | (go_ret2; exact HP3.out _ _ _ _ (by simpa [cO] using H1.out.own) H1.out.bel)
            | exact HP3.out _ _ _ _ (by simpa [cO] using H1.out.own) H1.out.bel
        | true =>
          have HP2 := HPO.out
          rw [if_neg (fun e => by cases HXE.out.1 e)] at HP2
          have HP3 := Lib.hid HP2
          clear HP2
          go_enter Tryd.func36, Tryd.ntmps36
          go_wp2_with (first
            | (at_builtin; refine wpList_addL rfl 85 84 (.tmp 23) (.tmp 28) rfl Tryd.underlying85 elePs (by decide) w0.heap.size (w.alloc (.cells #[.pointer (some ⟨b, o, none⟩), .int .i64 (r : Int)] 84)) _ rfl n _ HF.out.own #[.pointer (some ⟨nr, 0, none⟩), .int .i64 (LP : Int)] rfl (by intro u hu; simp at hu; rcases hu with rfl | rfl <;> rfl) rfl (w.heap.size + 1) (alloc_size _ _) rfl (by have := HN.out; omega) HF.out.bel.size ?_; intro g1 c1 w1 h1 h2 h3 _; have H1 := Lib.hid (HF.out.add h1 h2 h3); obtain ⟨a11, a12, a13, a14, a15, a16⟩ := HAT.out _ _ _ w1 H1.out; clear h1 h2 h3)
            | (at_builtin; refine wpList_addL rfl 85 84 (.tmp 41) (.tmp 47) rfl Tryd.underlying85 elePs (by decide) w0.heap.size w1 _ rfl (n + 1) _ H1.out.own #[.pointer (some ⟨np, 0, none⟩), .int .i64 ((r + 1 : Nat) : Int)] rfl (by intro u hu; simp at hu; rcases hu with rfl | rfl <;> rfl) rfl _ rfl rfl (by have := HN.out; omega) H1.out.bel.size ?_; intro g2 c2 w2 h1 h2 h3 _; have H2 := Lib.hid (H1.out.add h1 h2 h3); obtain ⟨a21, a22, a23, a24, a25, a26⟩ := HAT.out _ _ _ w2 H2.out; clear h1 h2 h3)
            | fail)
          first
            | (go_ret2; exact HP3.out _ _ _ _ (by simpa [cO] using H2.out.own) H2.out.bel)
            | exact HP3.out _ _ _ _ (by simpa [cO] using H2.out.own) H2.out.bel
    | some nl =>
      cases NP with
      | none =>
        unfold ptrO at *
        have HP2 := HPO.out
        rw [show (if x = [] then [] else cO none (r + 1)) = ([] : List Value) by split <;> rfl] at HP2
        have HP3 := Lib.hid HP2
        clear HP2
        go_enter Tryd.func36, Tryd.ntmps36
        go_wp2_with (first
          | (at_builtin; refine wpList_addL rfl 85 84 (.tmp 23) (.tmp 28) rfl Tryd.underlying85 elePs (by decide) w0.heap.size (w.alloc (.cells #[.pointer (some ⟨b, o, none⟩), .int .i64 (r : Int)] 84)) _ rfl n _ HF.out.own #[.pointer (some ⟨nr, 0, none⟩), .int .i64 (LP : Int)] rfl (by intro u hu; simp at hu; rcases hu with rfl | rfl <;> rfl) rfl (w.heap.size + 1) (alloc_size _ _) rfl (by have := HN.out; omega) HF.out.bel.size ?_; intro g1 c1 w1 h1 h2 h3 _; have H1 := Lib.hid (HF.out.add h1 h2 h3); obtain ⟨a11, a12, a13, a14, a15, a16⟩ := HAT.out _ _ _ w1 H1.out; clear h1 h2 h3)
          | (at_builtin; refine wpList_addL rfl 85 84 (.tmp 58) (.tmp 64) rfl Tryd.underlying85 elePs (by decide) w0.heap.size w1 _ rfl (n + 1) _ H1.out.own #[.pointer (some ⟨nl, 0, none⟩), .int .i64 ((r + 1 : Nat) : Int)] rfl (by intro u hu; simp at hu; rcases hu with rfl | rfl <;> rfl) rfl _ rfl rfl (by have := HN.out; omega) H1.out.bel.size ?_; intro g2 c2 w2 h1 h2 h3 _; have H2 := Lib.hid (H1.out.add h1 h2 h3); obtain ⟨a21, a22, a23, a24, a25, a26⟩ := HAT.out _ _ _ w2 H2.out; clear h1 h2 h3)
          | fail)
        first
          | (go_ret2; exact HP3.out _ _ _ _ (by simpa [cO] using H2.out.own) H2.out.bel)
          | exact HP3.out _ _ _ _ (by simpa [cO] using H2.out.own) H2.out.bel
      | some np =>
        unfold ptrO at *
        cases xe with
        | false =>
          have HP2 := HPO.out
          rw [if_pos (HXE.out.2 rfl)] at HP2
          have HP3 := Lib.hid HP2
          clear HP2
          go_enter Tryd.func36, Tryd.ntmps36
          go_wp2_with (first
            | (at_builtin; refine wpList_addL rfl 85 84 (.tmp 23) (.tmp 28) rfl Tryd.underlying85 elePs (by decide) w0.heap.size (w.alloc (.cells #[.pointer (some ⟨b, o, none⟩), .int .i64 (r : Int)] 84)) _ rfl n _ HF.out.own #[.pointer (some ⟨nr, 0, none⟩), .int .i64 (LP : Int)] rfl (by intro u hu; simp at hu; rcases hu with rfl | rfl <;> rfl) rfl (w.heap.size + 1) (alloc_size _ _) rfl (by have := HN.out; omega) HF.out.bel.size ?_; intro g1 c1 w1 h1 h2 h3 _; have H1 := Lib.hid (HF.out.add h1 h2 h3); obtain ⟨a11, a12, a13, a14, a15, a16⟩ := HAT.out _ _ _ w1 H1.out; clear h1 h2 h3)
            | (at_builtin; refine wpList_addL rfl 85 84 (.tmp 58) (.tmp 64) rfl Tryd.underlying85 elePs (by decide) w0.heap.size w1 _ rfl (n + 1) _ H1.out.own #[.pointer (some ⟨nl, 0, none⟩), .int .i64 ((r + 1 : Nat) : Int)] rfl (by intro u hu; simp at hu; rcases hu with rfl | rfl <;> rfl) rfl _ rfl rfl (by have := HN.out; omega) H1.out.bel.size ?_; intro g2 c2 w2 h1 h2 h3 _; have H2 := Lib.hid (H1.out.add h1 h2 h3); obtain ⟨a21, a22, a23, a24, a25, a26⟩ := HAT.out _ _ _ w2 H2.out; clear h1 h2 h3)
            | fail)
          first
            | (go_ret2; exact HP3.out _ _ _ _ (by simpa [cO] using H2.out.own) H2.out.bel)
            | exact HP3.out _ _ _ _ (by simpa [cO] using H2.out.own) H2.out.bel
        | true =>
          have HP2 := HPO.out
          rw [if_neg (fun e => by cases HXE.out.1 e)] at HP2
          have HP3 := Lib.hid HP2
          clear HP2
          go_enter Tryd.func36, Tryd.ntmps36
          go_wp2_with (first
            | (at_builtin; refine wpList_addL rfl 85 84 (.tmp 23) (.tmp 28) rfl Tryd.underlying85 elePs (by decide) w0.heap.size (w.alloc (.cells #[.pointer (some ⟨b, o, none⟩), .int .i64 (r : Int)] 84)) _ rfl n _ HF.out.own #[.pointer (some ⟨nr, 0, none⟩), .int .i64 (LP : Int)] rfl (by intro u hu; simp at hu; rcases hu with rfl | rfl <;> rfl) rfl (w.heap.size + 1) (alloc_size _ _) rfl (by have := HN.out; omega) HF.out.bel.size ?_; intro g1 c1 w1 h1 h2 h3 _; have H1 := Lib.hid (HF.out.add h1 h2 h3); obtain ⟨a11, a12, a13, a14, a15, a16⟩ := HAT.out _ _ _ w1 H1.out; clear h1 h2 h3)
            | (at_builtin; refine wpList_addL rfl 85 84 (.tmp 41) (.tmp 47) rfl Tryd.underlying85 elePs (by decide) w0.heap.size w1 _ rfl (n + 1) _ H1.out.own #[.pointer (some ⟨np, 0, none⟩), .int .i64 ((r + 1 : Nat) : Int)] rfl (by intro u hu; simp at hu; rcases hu with rfl | rfl <;> rfl) rfl _ rfl rfl (by have := HN.out; omega) H1.out.bel.size ?_; intro g2 c2 w2 h1 h2 h3 _; have H2 := Lib.hid (H1.out.add h1 h2 h3); obtain ⟨a21, a22, a23, a24, a25, a26⟩ := HAT.out _ _ _ w2 H2.out; clear h1 h2 h3)
            | (at_builtin; refine wpList_addL rfl 85 84 (.tmp 58) (.tmp 64) rfl Tryd.underlying85 elePs (by decide) w0.heap.size w2 _ rfl ((n + 1) + 1) _ H2.out.own #[.pointer (some ⟨nl, 0, none⟩), .int .i64 ((r + 1 : Nat) : Int)] rfl (by intro u hu; simp at hu; rcases hu with rfl | rfl <;> rfl) rfl _ rfl rfl (by have := HN.out; omega) H2.out.bel.size ?_; intro g3 c3 w3 h1 h2 h3 _; have H3 := Lib.hid (H2.out.add h1 h2 h3); obtain ⟨a31, a32, a33, a34, a35, a36⟩ := HAT.out _ _ _ w3 H3.out; clear h1 h2 h3)
            | fail)
          first
            | (go_ret2; exact HP3.out _ _ _ _ (by simpa [cO] using H3.out.own) H3.out.bel)
            | exact HP3.out _ _ _ _ (by simpa [cO] using H3.out.own) H3.out.bel
end Go.Proofs.YtgoaljnfegaldaaDoor
