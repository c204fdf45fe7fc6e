/- The landed grow of tries of ints walked. -/
import Derived.Test.YtgoaljnfegaldaaDoorTw1i
import Derived.Carry
namespace Go.Proofs.YtgoaljnfegaldaaDoor
open Go.RowKit
attribute [local go_sem] store_one S_match S_store eguard_BN nguard_BN B_eqlN B_neqN

theorem nilMi (w : World) : (binOp .eql 65 (.map none) (.map none)).run Tryd.prog w = .ok (.bool true) w := by kernel_rfl
theorem someMi (m : Nat) (w : World) : (binOp .eql 65 (.map (some m)) (.map none)).run Tryd.prog w = .ok (.bool false) w := by kernel_rfl
set_option maxRecDepth 100000 in
set_option maxHeartbeats 1000000 in
theorem growi_any {w : World} {g : Nat} {R : Nat → Option Role} {N M E : List Key → Option Nat} {C : Nat} {mx : Int} {av : Value} (h : Nodes w g R N M E C mx av) (k : List Key) (b : Nat) (hk : N k = some b) (s : Txt) (hs : s ≠ []) (hl : s.length ≤ 1000) (hC : C < 900000) :
    Calls Tryd.prog 28 #[.pointer (some ⟨b, offK k, none⟩), S s] w fun e w' => ∃ b', e = .returned (.pointer (some ⟨b', 0, none⟩)) ∧ Grown w g R N E C mx av k (keyS s) b' w' := by
  have hn := h.node k b hk
  have HBL := Lib.hid (belowi_any hn s hs (by omega))
  cases hc : N (k ++ [keyS s]) with
  | some b' =>
    rw [hc] at HBL
    have HE := Lib.hid (Grown.there h hc)
    clear hn hc hk h hs hl hC
    go_enter Tryd.func28, Tryd.ntmps28
    go_wp2_with fail
    refine HBL.out.mono ?_
    rintro e w' ⟨rfl, hw⟩
    rw [hw]
    clear hw w'
    unfold ptrO
    go_wp2
    go_ret
    exact ⟨b', rfl, HE.out⟩
  | none =>
    rw [hc] at HBL
    obtain ⟨c, r, rfl⟩ : ∃ c r, s = c :: r := by
      cases s with
      | nil => exact absurd rfl hs
      | cons c r => exact ⟨c, r, rfl⟩
    have hix : ∀ w, (Instr.index 9 (S (c :: r)) (.int .i64 0)).run Tryd.prog w = .ok (B c) w := fun w => index_S Tryd.underlying9 (c :: r) 0 c rfl w
    have hkey := key_head c r
    have H := Lib.hid (And.intro h (And.intro hk hc))
    obtain ⟨O, hO⟩ : ∃ O, O = offK k := ⟨_, rfl⟩
    rw [← hO] at hn HBL ⊢
    have HO := Lib.hid hO
    clear hO
    rcases kind_casesB c with rfl | ⟨g2, rfl⟩ | ⟨h1, h2, g2, g3⟩
    · rw [if_pos rfl] at hkey
      rw [hkey] at H ⊢
      have HE := Grown.cell H.out.1 H.out.2.1 H.out.2.2 69 1 (.inl ⟨rfl, rfl⟩)
      rw [← HO.out] at HE
      have HE := Lib.hid HE
      have hn1 := hn.same (w' := w.alloc (.cells #[.map none, .pointer none, .pointer none, .pointer none] 69)) (heap_alloc_old w _ hn.lt) (fun m hm => heap_alloc_old w _ (H.out.1.lt m _ (H.out.1.mR k m hm).1))
      have f1 := hn1.par.1
      have f2 := hn1.par.2
      generalize S (58 :: r) = X at *
      clear hn hn1 h hk hc hs hl
      go_enter Tryd.func28, Tryd.ntmps28
      go_wp2_with fail
      refine HBL.out.mono ?_
      rintro e w' ⟨rfl, hw⟩
      rw [hw]
      clear hw w'
      unfold ptrO
      go_wp2
      go_ret
      exact ⟨_, rfl, HE.out⟩
    · rw [if_neg (by decide), if_pos rfl] at hkey
      rw [hkey] at H ⊢
      have HE := Grown.cell H.out.1 H.out.2.1 H.out.2.2 69 2 (.inr ⟨rfl, rfl⟩)
      rw [← HO.out] at HE
      have HE := Lib.hid HE
      have hn1 := hn.same (w' := w.alloc (.cells #[.map none, .pointer none, .pointer none, .pointer none] 69)) (heap_alloc_old w _ hn.lt) (fun m hm => heap_alloc_old w _ (H.out.1.lt m _ (H.out.1.mR k m hm).1))
      have f1 := hn1.rst.1
      have f2 := hn1.rst.2
      generalize S (42 :: r) = X at *
      clear hn hn1 h hk hc hs hl
      go_enter Tryd.func28, Tryd.ntmps28
      go_wp2_with fail
      refine HBL.out.mono ?_
      rintro e w' ⟨rfl, hw⟩
      rw [hw]
      clear hw w'
      unfold ptrO
      go_wp2
      go_ret
      exact ⟨_, rfl, HE.out⟩
    · rw [if_neg h1, if_neg h2] at hkey
      rw [hkey] at H ⊢
      cases hM : M k with
      | none =>
        have hf0 : ∀ x, N (k ++ [.lit x]) = none := by have := hn.map; rw [hM] at this; exact this
        have HPM : Hid (PMap Tryd.prog 9 (((w.alloc (.cells #[.map none, .pointer none, .pointer none, .pointer none] 69)).alloc (.map #[] 0)).setCell ⟨b, O, none⟩ (.map (some (w.heap.size + 1)))) (w.heap.size + 1) 0 (fun _ => none)) := Lib.hid (by
          have h1 := pmap_made (P := Tryd.prog) (k := 9) (w.alloc (.cells #[.map none, .pointer none, .pointer none, .pointer none] 69))
          rw [alloc_size] at h1
          refine PMap.same h1 (Below.heap_setCell _ _ _ _ (fun e => ?_))
          have := hn.lt
          have e : w.heap.size + 1 = b := e
          omega)
        have HE : Hid (∀ w', PMap Tryd.prog 9 w' (w.heap.size + 1) (0 + 1) (updF (fun _ => none) (c :: r) w.heap.size) → (((w.alloc (.cells #[.map none, .pointer none, .pointer none, .pointer none] 69)).alloc (.map #[] 0)).setCell ⟨b, O, none⟩ (.map (some (w.heap.size + 1)))).grownBy w' (some (w.heap.size + 1)) → Grown w g R N E C mx av k (.lit (c :: r)) w.heap.size w') := Lib.hid fun w' a1 a2 => by
          refine Grown.lit H.out.1 H.out.2.1 H.out.2.2 69 (w.heap.size + 1) _ (.inr ⟨hM, rfl, rfl⟩) ?_ (by rw [← HO.out]; exact a2)
          have : (fun s => N (k ++ [.lit s])) = fun _ => none := funext hf0
          rw [this]
          exact a1.mono (by omega)
        have hn1 := hn.same (w' := w.alloc (.cells #[.map none, .pointer none, .pointer none, .pointer none] 69)) (heap_alloc_old w _ hn.lt) (fun m hm => heap_alloc_old w _ (H.out.1.lt m _ (H.out.1.mR k m hm).1))
        have f1 := hn1.lits.1
        have f2 := hn1.lits.2
        have hn2 := hn1.same (w' := (w.alloc (.cells #[.map none, .pointer none, .pointer none, .pointer none] 69)).alloc (.map #[] 0)) (heap_alloc_old _ _ hn1.lt) (fun m hm => by rw [hM] at hm; cases hm)
        have f3 := hn2.lits.1
        have f4 := hn2.lits.2
        rw [hM] at f1 f3
        have f5 : (((w.alloc (.cells #[.map none, .pointer none, .pointer none, .pointer none] 69)).alloc (.map #[] 0)).setCell ⟨b, O, none⟩ (.map (some (w.heap.size + 1)))).cell? ⟨b, O, none⟩ = some (.map (some (w.heap.size + 1))) := by
          obtain ⟨cs, t, hr, h0, _⟩ := hn2.row
          rw [cell_of_row _ b O _ t (0, 0) (hr.set O (.map (some (w.heap.size + 1))))]
          exact set_at h0
        have hmm := @run_makeMap Tryd.prog
        have e1 := nilMi
        have HL := Lib.hid hl
        obtain ⟨X, hX⟩ : ∃ X, X = S (c :: r) := ⟨_, rfl⟩
        rw [← hX] at hix HBL ⊢
        have HX := Lib.hid hX
        clear hn hn1 hn2 h hk hc hs hl hM hX hf0 h1 h2
        unfold mapV at f1 f3
        go_enter Tryd.func28, Tryd.ntmps28
        go_wp2_with fail
        refine HBL.out.mono ?_
        rintro e w' ⟨rfl, hw⟩
        rw [hw]
        clear hw w'
        unfold ptrO
        go_wp2_with (first
          | (at_mapUpdate; refine wpList_putP Tryd.underlying9 Tryd.underlying65 rfl _ _ _ rfl rfl HPM.out (by omega) (c :: r) HX.out (by have := HL.out; omega) w.heap.size rfl ?_; intro w5 h5 h6; have H5 := Lib.hid (HE.out w5 h5 h6); clear h5 h6)
          | fail)
        go_ret
        exact ⟨_, rfl, H5.out⟩
      | some m =>
        have hpm : PMap Tryd.prog 9 w m C (fun x => N (k ++ [.lit x])) := by have := hn.map; rw [hM] at this; exact this
        have HPM : Hid (PMap Tryd.prog 9 (w.alloc (.cells #[.map none, .pointer none, .pointer none, .pointer none] 69)) m C (fun x => N (k ++ [.lit x]))) := Lib.hid (hpm.below ((Below.refl _ w).alloc (Nat.le_refl _) _))
        have HE : Hid (∀ w', PMap Tryd.prog 9 w' m (C + 1) (updF (fun x => N (k ++ [.lit x])) (c :: r) w.heap.size) → (w.alloc (.cells #[.map none, .pointer none, .pointer none, .pointer none] 69)).grownBy w' (some m) → Grown w g R N E C mx av k (.lit (c :: r)) w.heap.size w') := Lib.hid fun w' a1 a2 =>
          Grown.lit H.out.1 H.out.2.1 H.out.2.2 69 m _ (.inl ⟨hM, rfl⟩) a1 a2
        have hn1 := hn.same (w' := w.alloc (.cells #[.map none, .pointer none, .pointer none, .pointer none] 69)) (heap_alloc_old w _ hn.lt) (fun m hm => heap_alloc_old w _ (H.out.1.lt m _ (H.out.1.mR k m hm).1))
        have f1 := hn1.lits.1
        rw [hM] at f1
        have HL := Lib.hid hl
        have HC := Lib.hid hC
        have e1 := someMi m
        obtain ⟨X, hX⟩ : ∃ X, X = S (c :: r) := ⟨_, rfl⟩
        rw [← hX] at hix HBL ⊢
        have HX := Lib.hid hX
        clear hn hn1 h hk hc hs hl hM hX hpm h1 h2
        unfold mapV at f1
        go_enter Tryd.func28, Tryd.ntmps28
        go_wp2_with fail
        refine HBL.out.mono ?_
        rintro e w' ⟨rfl, hw⟩
        rw [hw]
        clear hw w'
        unfold ptrO
        go_wp2_with (first
          | (at_mapUpdate; refine wpList_putP Tryd.underlying9 Tryd.underlying65 rfl _ _ _ rfl rfl HPM.out (by have := HC.out; omega) (c :: r) HX.out (by have := HL.out; omega) w.heap.size rfl ?_; intro w5 h5 h6; have H5 := Lib.hid (HE.out w5 h5 h6); clear h5 h6)
          | fail)
        go_ret
        exact ⟨_, rfl, H5.out⟩
end Go.Proofs.YtgoaljnfegaldaaDoor
