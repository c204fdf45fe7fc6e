/- The landed same, Set and Get of tries of ints walked. (mktw.py writes it.) -/
import Derived.Test.YtgoaljnfegaldaaDoorTw9i
import Derived.Test.YtgoaljnfegaldaaDoorTk1
namespace Go.Proofs.YtgoaljnfegaldaaDoor
open Go.RowKit
attribute [local go_sem] store_one S_match S_store

section
variable {w : World} {F : Nat → Prop} {g : Nat} {max : Int} {l : Ents Int} {R : Nat → Option Role} {N M E : List Key → Option Nat} {here : List Key → Option (Txt × Int)} {bs : List Nat} {C : Nat} {av : Value}
/-- What just this pattern has, and where. -/
def SameIs (l : Ents Int) (E : List Key → Option Nat) (here : List Key → Option (Txt × Int)) (p : Txt) (s : List Txt) : Option Nat → Prop
  | none => ∀ e ∈ l, e.1 ≠ p
  | some b => E (keysF s) = some b ∧ ∃ x, here (keysF s) = some (p, x)
theorem S_inj {a b : Txt} (h : S a = S b) : a = b := by
  unfold S at h
  injection h with h
  injection h with h
  simpa using h
set_option maxRecDepth 100000 in
set_option maxHeartbeats 1000000 in
theorem samei_any (h : TrieAt vli w F g max l R N M E here bs C av) (p : Txt) (s : List Txt) (hs : segsF p = some s) (hpl : p.length ≤ 200) (hm : MaxAt w) :
    Calls Tryd.prog 33 #[.pointer (some ⟨g, 0, none⟩), S p] w fun e w' => ∃ o, e = .returned (ptrO o) ∧ SameIs l E here p s o ∧ Below w.heap.size w w' := by
  have HT := Lib.hid (twini_any h.nodes p s hs hpl hm)
  have hrel := h.ents (keysF s)
  have hseg : segD p = s := by unfold segD; rw [hs]; rfl
  have hall : ∀ e ∈ l, e.1 = p → here (keysF s) = some e := fun e he hp => (h.keyd.at_ (keysF s) e).2 ⟨he, by rw [hp, hseg]⟩
  cases hE : E (keysF s) with
  | none =>
    rw [hE] at HT
    have hh : here (keysF s) = none := hrel.none_iff.1 hE
    have HP : Hid (SameIs l E here p s none) := Lib.hid fun e he hp => by rw [hall e he hp] at hh; cases hh
    clear h hs hpl hm hrel hall hE hh hseg
    go_enter Tryd.func33, Tryd.ntmps33
    go_wp2_with fail
    refine HT.out.mono ?_
    rintro e W ⟨rfl, hB⟩
    have HB := Lib.hid hB
    clear hB
    unfold ptrO
    go_wp2
    go_ret
    exact ⟨none, rfl, HP.out, HB.out⟩
  | some b =>
    rw [hE] at HT hrel
    cases hh : here (keysF s) with
    | none => rw [hh] at hrel; exact hrel.elim
    | some e =>
      rw [hh] at hrel
      obtain ⟨ty, hrow⟩ := hrel
      obtain ⟨q, x⟩ := e
      have HC : Hid (∀ W, Below w.heap.size w W → W.cell? ⟨b, 0, none⟩ = some (S q)) := Lib.hid fun W hB => cell_of_row W b 0 _ ty (0, 0) (hrow.below hB hrow.lt)
      have n1 : ∀ y z, eqGuard .neq 9 y z (S q) (S p) = pure () := fun y z => nguard_S 9 y z q p
      have q1 : binOp .neq 9 (S q) (S p) = pure (.bool (q != p)) := neql_S 9 q p
      by_cases hqp : q = p
      · rw [show (q != p) = false by rw [hqp]; simp] at q1
        have HP : Hid (SameIs l E here p s (some b)) := Lib.hid ⟨hE, x, by rw [hh, hqp]⟩
        clear h hs hpl hm hall hE hh hrow hqp hseg
        go_enter Tryd.func33, Tryd.ntmps33
        go_wp2_with fail
        refine HT.out.mono ?_
        rintro e W ⟨rfl, hB⟩
        have HB := Lib.hid hB
        have c0 := HC.out W hB
        clear hB
        unfold ptrO
        go_wp2
        go_ret
        exact ⟨some b, rfl, HP.out, HB.out⟩
      · rw [show (q != p) = true from bne_iff_ne.2 hqp] at q1
        have HP : Hid (SameIs l E here p s none) := Lib.hid fun e he hp => hqp (by
          have := hall e he hp
          rw [hh] at this
          rw [← hp, ← Option.some.inj this])
        clear h hs hpl hm hall hE hh hrow hqp hseg
        go_enter Tryd.func33, Tryd.ntmps33
        go_wp2_with fail
        refine HT.out.mono ?_
        rintro e W ⟨rfl, hB⟩
        have HB := Lib.hid hB
        have c0 := HC.out W hB
        clear hB
        unfold ptrO
        go_wp2
        go_ret
        exact ⟨none, rfl, HP.out, HB.out⟩
/-- One pattern has something else. -/
def turnE (p : Txt) (x : Int) (e : Txt × Int) : Txt × Int := if e.1 == p then (p, x) else e
theorem turnE_fst (p : Txt) (x : Int) (e : Txt × Int) : (turnE p x e).1 = e.1 := by
  unfold turnE
  split
  · rename_i h; exact (beq_iff_eq.1 h).symm
  · rfl
theorem TrieAt.set (h : TrieAt vli w F g max l R N M E here bs C av) {p : Txt} {s : List Txt} (hs : segsF p = some s) {b : Nat} (hE : E (keysF s) = some b) {x0 : Int} (hh : here (keysF s) = some (p, x0)) (x : Int) :
    RTrie vli (w.setCell ⟨b, 1, none⟩ (vli x)) F g max (l.map (turnE p x)) ∧ Moves F F w (w.setCell ⟨b, 1, none⟩ (vli x)) ∧ w.cell? ⟨b, 1, none⟩ = some (vli x0) ∧ w.frozen? ⟨b, 1, none⟩ = false := by
  have hRb := (h.nodes.eR _ b hE).1
  have hbl := h.nodes.lt b _ hRb
  have hkeep := Keeps.setCell (b := b) w 1 (vli x)
  have hrel := h.ents (keysF s)
  rw [hE, hh] at hrel
  obtain ⟨ty, hrow⟩ := hrel
  have hseg : segD p = s := by unfold segD; rw [hs]; rfl
  have hrest : ∀ y r, R y = some r → r ≠ .en → (w.setCell ⟨b, 1, none⟩ (vli x)).heap[y]? = w.heap[y]? := fun y r hy hr => hkeep.block y (h.nodes.lt y r hy) fun e => by
    rw [e, hRb] at hy; exact hr (Option.some.inj hy).symm
  refine ⟨⟨R, N, M, E, fun k => (here k).map (turnE p x), bs, C, av, h.nodes.same hkeep.size fun y ⟨k, hr⟩ => ?_, h.foot, ⟨fun e he => ?_, ?_⟩, ⟨fun k e => ?_, fun e he k r hkr => ?_⟩, fun k => ?_, h.own.of_block hkeep.size fun y hy => hrest y _ (h.ownR y hy) (fun e => by cases e), h.ownR, by rw [List.length_map]; exact h.bsl, fun i b' e hb' he => ?_, by rw [List.length_map]; exact h.few, fun e he => ?_⟩, ?_, ?_, hrow.frozen 1⟩
  · rcases hr with hr | hr
    · exact hrest y _ hr (fun e => by cases e)
    · exact hrest y _ hr (fun e => by cases e)
  · obtain ⟨e0, he0, rfl⟩ := List.mem_map.1 he
    rw [turnE_fst]; exact h.wf.segs e0 he0
  · rw [List.pairwise_map]
    refine h.wf.apart.imp fun {a c} hac => ?_
    rw [turnE_fst, turnE_fst]; exact hac
  · constructor
    · intro hk
      cases hc : here k with
      | none => rw [hc] at hk; cases hk
      | some e0 =>
        rw [hc] at hk
        obtain rfl := Option.some.inj hk
        obtain ⟨h1, h2⟩ := (h.keyd.at_ k e0).1 hc
        exact ⟨List.mem_map.2 ⟨e0, h1, rfl⟩, by rw [turnE_fst]; exact h2⟩
    · rintro ⟨h1, h2⟩
      obtain ⟨e0, he0, rfl⟩ := List.mem_map.1 h1
      rw [turnE_fst] at h2
      rw [(h.keyd.at_ k e0).2 ⟨he0, h2⟩]; rfl
  · obtain ⟨e0, he0, rfl⟩ := List.mem_map.1 he
    rw [turnE_fst] at hkr
    exact h.keyd.way e0 he0 k r hkr
  · have hk := h.ents k
    cases hEk : E k with
    | none => rw [hk.none_iff.1 hEk]; trivial
    | some y =>
      rw [hEk] at hk
      cases hc : here k with
      | none => rw [hc] at hk; exact hk.elim
      | some e0 =>
        rw [hc] at hk
        obtain ⟨t0, hr0⟩ := hk
        have hke := ((h.keyd.at_ k e0).1 hc).2
        by_cases e : y = b
        · subst e
          have hp : e0.1 = p := by
            unfold Row at hr0 hrow
            rw [hr0] at hrow
            injection hrow with e1
            injection e1 with e1
            have e2 := congrArg (fun a : Array Value => a[0]?) e1
            exact S_inj (Option.some.inj e2)
          refine ⟨ty, ?_⟩
          have h2 := hrow.set 1 (vli x)
          unfold turnE
          rw [if_pos (beq_iff_eq.2 hp)]
          exact h2
        · have hne : e0.1 ≠ p := fun hp => e (by
            rw [hp, hseg] at hke
            rw [← hke, hE] at hEk
            exact (Option.some.inj hEk).symm)
          refine ⟨t0, ?_⟩
          unfold turnE
          rw [if_neg (fun h => hne (beq_iff_eq.1 h))]
          unfold Row
          rw [hkeep.block y hr0.lt e]; exact hr0
  · rw [List.getElem?_map] at he
    cases hl : l[i]? with
    | none => rw [hl] at he; cases he
    | some e0 =>
      rw [hl] at he
      obtain rfl := Option.some.inj he
      rw [turnE_fst]; exact h.bsE i b' e0 hb' hl
  · obtain ⟨e0, he0, rfl⟩ := List.mem_map.1 he
    rw [turnE_fst]; exact h.short e0 he0
  · refine ⟨hkeep.os, hkeep.tape, hkeep.output, hkeep.size, fun k hk => .inl hk, fun y hy hF => hkeep.block y hy fun e => hF ?_⟩
    rw [e]; exact (h.foot b).2 ⟨_, hRb⟩
  · rw [cell_of_row w b 1 _ ty (0, 0) hrow]; rfl
theorem setE_is (l : Ents Int) (p : Txt) (x : Int) (s : List Txt) (hs : segsF p = some s) : setE l p x = if (l.any fun e => e.1 == p) = true then (0, l.map (turnE p x)) else (4, l) := by
  unfold setE
  rw [hs]; rfl
theorem any_no {l : Ents Int} {p : Txt} (h : ∀ e ∈ l, e.1 ≠ p) : (l.any fun e => e.1 == p) = false := by
  rw [List.any_eq_false]
  exact fun e he hb => h e he (beq_iff_eq.1 hb)
theorem SameIs.mem (h : TrieAt vli w F g max l R N M E here bs C av) {p : Txt} {s : List Txt} {x0 : Int} (hh : here (keysF s) = some (p, x0)) : (p, x0) ∈ l := ((h.keyd.at_ _ _).1 hh).1
set_option maxRecDepth 100000 in
set_option maxHeartbeats 1000000 in
theorem seti_any (h : TrieAt vli w F g max l R N M E here bs C av) (p : Txt) (x : Int) (hpl : p.length ≤ 200) (hm : MaxAt w) :
    Calls Tryd.prog 18 #[.pointer (some ⟨g, 0, none⟩), S p, iV x] w fun e w' => e = .returned (.int .i64 ((setE l p x).1 : Int)) ∧ ∃ F', RTrie vli w' F' g max (setE l p x).2 ∧ Moves F F' w w' := by
  obtain ⟨PO, hPO⟩ : ∃ PO : Ending → World → Prop, PO = fun e w' => e = .returned (.int .i64 ((setE l p x).1 : Int)) ∧ ∃ F', RTrie vli w' F' g max (setE l p x).2 ∧ Moves F F' w w' := ⟨_, rfl⟩
  rw [← hPO]
  have HSAME : Hid (∀ n, setE l p x = (n, l) → ∀ W, Below w.heap.size w W → PO (.returned (.int .i64 (n : Int))) W) := Lib.hid fun n hn W hB => by
    rw [hPO, hn]; exact ⟨rfl, F, ⟨_, _, _, _, _, _, _, _, h.below hB⟩, Moves.of_below hB⟩
  have HNEW : Hid (setE l p x = (0, l.map (turnE p x)) → ∀ W3, Below w.heap.size w W3 → ∀ W, RTrie vli W F g max (l.map (turnE p x)) → Moves F F W3 W → PO (.returned (.int .i64 0)) W) := Lib.hid fun hn W3 hB W h1 h2 => by
    rw [hPO, hn]; exact ⟨rfl, F, h1, (Moves.of_below hB).trans h2⟩
  have HR := Lib.hid (right_any p hpl w hm)
  have H := Lib.hid h
  have HM := Lib.hid hm
  have HPL := Lib.hid hpl
  clear h hpl hm hPO
  cases hs : segsF p with
  | none =>
    rw [hs] at HR
    have HP := Lib.hid (HSAME.out 8 (by unfold setE; rw [hs]; rfl))
    clear hs
    go_enter Tryd.func18, Tryd.ntmps18
    go_wp2_with fail
    refine HR.out.mono ?_
    rintro e W ⟨rfl, hB⟩
    have HB := Lib.hid hB
    clear hB
    go_wp2
    first | (go_ret2; exact HP.out _ HB.out) | exact HP.out _ HB.out
  | some s =>
    rw [hs] at HR
    have HSM : Hid (∀ W, Below w.heap.size w W → Calls Tryd.prog 33 #[.pointer (some ⟨g, 0, none⟩), S p] W fun e w' => ∃ o, e = .returned (ptrO o) ∧ SameIs l E here p s o ∧ Below W.heap.size W w') := Lib.hid fun W hB =>
      samei_any (H.out.below hB) p s hs HPL.out (HM.out.below hB)
    have HS := Lib.hid hs
    clear hs
    go_enter Tryd.func18, Tryd.ntmps18
    go_wp2_with fail
    refine HR.out.mono ?_
    rintro e W ⟨rfl, hB⟩
    have HB := Lib.hid hB
    clear hB
    go_wp2_with fail
    refine (HSM.out W HB.out).mono ?_
    rintro e W2 ⟨o, rfl, ho, hB⟩
    have HB2 := Lib.hid (HB.out.trans (hB.mono HB.out.size))
    clear hB
    cases o with
    | none =>
      have HP := Lib.hid (HSAME.out 4 (by rw [setE_is l p x s HS.out, any_no ho]; rfl))
      clear ho
      unfold ptrO
      go_wp2
      first | (go_ret2; exact HP.out _ HB2.out) | exact HP.out _ HB2.out
    | some b =>
      obtain ⟨hE, x0, hh⟩ := ho
      obtain ⟨h1, h2, h3, h4⟩ := (H.out.below HB2.out).set HS.out hE hh x
      have hany : (l.any fun e => e.1 == p) = true := List.any_eq_true.2 ⟨_, SameIs.mem H.out hh, beq_iff_eq.2 rfl⟩
      have HP := Lib.hid (HNEW.out (by rw [setE_is l p x s HS.out, hany]; rfl) W2 HB2.out _ h1 h2)
      clear h1 h2 hE hh hany
      unfold ptrO
      go_wp2
      first | (go_ret2; exact HP.out) | exact HP.out
set_option maxRecDepth 100000 in
set_option maxHeartbeats 1000000 in
theorem geti_any (h : TrieAt vli w F g max l R N M E here bs C av) (p : Txt) (hpl : p.length ≤ 200) (hm : MaxAt w) :
    Calls Tryd.prog 19 #[.pointer (some ⟨g, 0, none⟩), S p] w fun e w' => e = .returned (.tuple #[iV ((getE l p).getD 0), .bool (getE l p).isSome]) ∧ Below w.heap.size w w' := by
  have HR := Lib.hid (right_any p hpl w hm)
  have H := Lib.hid h
  have HM := Lib.hid hm
  have HPL := Lib.hid hpl
  have hno : (∀ e ∈ l, e.1 ≠ p) → getE l p = none := fun hn => by
    unfold getE
    rw [List.find?_eq_none.2 (fun e he hb => hn e he (beq_iff_eq.1 hb))]; rfl
  have HNO := Lib.hid hno
  clear h hpl hm hno
  cases hs : segsF p with
  | none =>
    rw [hs] at HR
    have HG : Hid (getE l p = none) := Lib.hid (HNO.out fun e he hp => by
      obtain ⟨q, hq⟩ := H.out.wf.segs e he
      rw [hp, hs] at hq; cases hq)
    clear hs
    go_enter Tryd.func19, Tryd.ntmps19
    go_wp2_with fail
    refine HR.out.mono ?_
    rintro e W ⟨rfl, hB⟩
    have HB := Lib.hid hB
    clear hB
    go_wp2
    go_ret2
    exact ⟨by rw [HG.out]; rfl, HB.out⟩
  | some s =>
    rw [hs] at HR
    have HSM : Hid (∀ W, Below w.heap.size w W → Calls Tryd.prog 33 #[.pointer (some ⟨g, 0, none⟩), S p] W fun e w' => ∃ o, e = .returned (ptrO o) ∧ SameIs l E here p s o ∧ Below W.heap.size W w') := Lib.hid fun W hB =>
      samei_any (H.out.below hB) p s hs HPL.out (HM.out.below hB)
    have HS := Lib.hid hs
    clear hs
    go_enter Tryd.func19, Tryd.ntmps19
    go_wp2_with fail
    refine HR.out.mono ?_
    rintro e W ⟨rfl, hB⟩
    have HB := Lib.hid hB
    clear hB
    go_wp2_with fail
    refine (HSM.out W HB.out).mono ?_
    rintro e W2 ⟨o, rfl, ho, hB⟩
    have HB2 := Lib.hid (HB.out.trans (hB.mono HB.out.size))
    clear hB
    cases o with
    | none =>
      have HG : Hid (getE l p = none) := Lib.hid (HNO.out ho)
      clear ho
      unfold ptrO
      go_wp2
      go_ret2
      exact ⟨by rw [HG.out]; rfl, HB2.out⟩
    | some b =>
      obtain ⟨hE, x0, hh⟩ := ho
      obtain ⟨-, -, h3, -⟩ := (H.out.below HB2.out).set HS.out hE hh 0
      have HG : Hid (getE l p = some x0) := Lib.hid (by
        unfold getE
        cases hf : l.find? fun e => e.1 == p with
        | none => exact absurd (SameIs.mem H.out hh) fun hm => by have := List.find?_eq_none.1 hf _ hm; simp at this
        | some e =>
          have h1 := List.mem_of_find?_eq_some hf
          have h2 := List.find?_some hf
          have h2 : e.1 = p := by simpa using h2
          have h3 : here (keysF s) = some e := (H.out.keyd.at_ _ e).2 ⟨h1, by rw [h2, show segD p = s by unfold segD; rw [HS.out]; rfl]⟩
          rw [hh] at h3
          rw [← Option.some.inj h3]; rfl)
      clear hE hh
      unfold ptrO
      go_wp2
      go_ret2
      exact ⟨by rw [HG.out]; rfl, HB2.out⟩
end
end Go.Proofs.YtgoaljnfegaldaaDoor
