/- The landed field.Each and field.Has walked. (mkrw3.py writes it.) -/
import Derived.Test.YtnaekjmlikhglaaDoorRw3
import Derived.Test.YtnaekjmlikhglaaDoorQp
import Derived.Test.YtnaekjmlikhglaaDoorGen9
namespace Go.Proofs.YtnaekjmlikhglaaDoor
open Go.RowKit Go.Shelf
attribute [local go_sem] store_one Oper.semAt_some S_match S_store

def encS (p : List UInt8) : Array Value := #[S p]
theorem below_grows {W W' : World} (h : Below W.heap.size W W') : W.grownBy W' none := ⟨h.os, h.tape, h.output, h.size, fun k hk _ => h.block k hk⟩
/-- What is still to be told. -/
def moreF (m : Bool) (r : List UInt8) : List (List UInt8) := if m then partsF r else []
def moreN (rv mv : Value) : Nat := match mv with
  | .bool true => slen rv + 1
  | _ => 0
theorem cut_part (r : List UInt8) (hr : r.length ≤ 100000) (w : World) : ∃ c d m, (Calls Tryd.prog 77 #[S r, .string ⟨#[44]⟩] w fun e w' => e = .returned (.tuple #[S c, S d, .bool m]) ∧ Drawn w w') ∧
    partsF r = keepF c ++ moreF m d ∧ c.length ≤ 100000 ∧ d.length ≤ 100000 ∧ moreN (S d) (.bool m) < moreN (S r) (.bool true) := by
  rcases cut_cases 44 r with ⟨a, b, rfl, h⟩ | h
  · rw [List.length_append, List.length_cons] at hr
    refine ⟨a, b, true, cut_hit 44 a b h (by omega) w, ?_, by omega, by omega, ?_⟩
    · rw [parts_join, show partsF a = ptsF [] a from rfl, pts_plain a [] h]; rfl
    · show slen (S b) + 1 < slen (S (a ++ 44 :: b)) + 1
      rw [slen_S, slen_S, List.length_append, List.length_cons]; omega
  · refine ⟨r, [], false, cut_miss 44 r h w, ?_, hr, by simp, ?_⟩
    · rw [show partsF r = ptsF [] r from rfl, pts_plain r [] h]; unfold moreF; rw [if_neg Bool.false_ne_true, List.append_nil]; rfl
    · show 0 < slen (S r) + 1; omega
theorem trim27 (c : List UInt8) (hc : c.length ≤ 100000) (w : World) : Calls Tryd.prog 78 #[S c, .string ⟨#[9, 32]⟩] w fun e w' => e = .returned (S (bareF c)) ∧ Below w.heap.size w w' := trim_any c hc w
set_option maxRecDepth 100000 in
set_option maxHeartbeats 2000000 in
theorem each28_seq (s : List UInt8) (hs : s.length ≤ 100000) (Bs : Nat) (n : Nat) :
    SeqL Tryd.prog n 76 #[.pointer (some ⟨Bs, 0, none⟩)] encS 0 (fun r => r = Bs) (partsF s) (fun W => Row W Bs #[S s] 9) := fun l J Jx W hOk hJ hJx hY h0 => by
  obtain ⟨b, hb⟩ : ∃ b, b = W.heap.size := ⟨_, rfl⟩
  have hBs := hOk.lt
  have hBb : Bs < b := by omega
  have cs : W.cell? ⟨Bs, 0, none⟩ = some (S s) := cell_of_row W Bs 0 _ 9 (0, 0) hOk
  rw [← hb] at hJ hJx hY
  have hnf : ∀ w, (binOp .eql 35 (.func (.yield l) #[] #[]) .nilFunc).run Tryd.prog w = .ok (.bool false) w := eql_nilFunc Tryd.underlying35 _ _ _
  refine callsIn_of_wp Tryd.func76 rfl trivial ?_ rfl
  simp only [Tryd.ntmps76, List.size_toArray, List.length_cons, List.length_nil, Nat.reduceAdd, Nat.reduceSub, Array.replicate_succ, Array.replicate_zero, List.push_toArray, List.append_toArray, List.nil_append, List.cons_append]
  have HJ := Lib.hid (And.intro hJ hJx)
  have HY := Lib.hid hY
  have H0 := Lib.hid (And.intro h0 (And.intro hs (And.intro hb hOk)))
  clear hJ hJx hY h0 hs hb hOk
  gi_wp2
  gi_loopw [3, 4] (fun rv mv wr => ∃ (pre : List (List UInt8)) (r : List UInt8) (m : Bool), rv = S r ∧ mv = .bool m ∧ r.length ≤ 100000 ∧ partsF s = pre ++ moreF m r ∧ J pre wr ∧ b ≤ wr.heap.size) (fun rv mv _ => moreN rv mv)
  case atStart => exact ⟨[], s, true, rfl, rfl, H0.out.2.1, rfl, H0.out.1, by rw [H0.out.2.2.1]; exact Nat.le_refl _⟩
  case round =>
    obtain ⟨pre, r, m, rfl, rfl, hr, hp, hJp, hsz⟩ := hrel
    cases m with
    | true =>
      obtain ⟨c, d, m, hcut, hpc, hc, hd, hlt⟩ := cut_part r hr wr
      have HCUT := Lib.hid hcut
      have HT : Hid (∀ w, Calls Tryd.prog 78 #[S c, .string ⟨#[9, 32]⟩] w fun e w' => e = .returned (S (bareF c)) ∧ Below w.heap.size w w') := Lib.hid (trim27 c hc)
      have HD := Lib.hid (And.intro hd hlt)
      have hp2 : partsF s = pre ++ (keepF c ++ moreF m d) := by rw [hp]; unfold moreF at hpc ⊢; rw [if_pos rfl, hpc]
      have HP := Lib.hid (And.intro hp2 (And.intro hJp hsz))
      clear hcut hpc hc hd hlt hp hp2 hJp hsz hr
      gi_wp2_with fail
      refine ⟨trivial, fun h => absurd h (by simp [Fence.wide]), (callsIn_wide.2 HCUT.out).mono ?_⟩
      rintro e W2 ⟨rfl, hD2⟩
      have HD2 := Lib.hid hD2
      clear hD2
      gi_wp2_with fail
      refine ⟨trivial, fun h => absurd h (by simp [Fence.wide]), (callsIn_wide.2 (HT.out W2)).mono ?_⟩
      rintro e W3 ⟨rfl, hB3⟩
      have hJ3 : J pre W3 := HJ.out.1 pre W2 W3 none (HJ.out.1 pre wr W2 none HP.out.2.1 (HD2.out.grown none) (fun r e => by cases e)) (below_grows hB3) (fun r e => by cases e)
      have hsz3 : b ≤ W3.heap.size := by have := hB3.size; have := HD2.out.heap; have := HP.out.2.2; rw [HD2.out.heap] at *; omega
      have H3 := Lib.hid (And.intro hJ3 hsz3)
      clear hB3 hJ3 hsz3
      by_cases he : bareF c = []
      · have hne : binOp .neq 9 (S (bareF c)) (.string ⟨#[]⟩) = pure (.bool false) := by rw [he]; exact neql_S 9 [] []
        have hng : ∀ x y, eqGuard .neq 9 x y (S (bareF c)) (.string ⟨#[]⟩) = pure () := fun x y => nguard_S 9 x y _ []
        have HK : Hid (keepF c = []) := Lib.hid (keep_none he)
        clear he
        gi_wp2
        refine ⟨fun f e => (by cases e), ?_⟩
        gi_wp2
        exact ⟨⟨pre, d, m, rfl, rfl, HD.out.1, by rw [HP.out.1, HK.out, List.nil_append], H3.out⟩, HD.out.2⟩
      · have hne : binOp .neq 9 (S (bareF c)) (.string ⟨#[]⟩) = pure (.bool true) := by
          refine (neql_S 9 (bareF c) []).trans ?_
          rw [bne_iff_ne.2 he]
        have hng : ∀ x y, eqGuard .neq 9 x y (S (bareF c)) (.string ⟨#[]⟩) = pure () := fun x y => nguard_S 9 x y _ []
        have hK : keepF c = [bareF c] := keep_some he
        have hps : partsF s = (pre ++ [bareF c]) ++ moreF m d := by rw [HP.out.1, hK, List.append_assoc]
        obtain ⟨fn, tmps, assign, body, hy, hR⟩ := HY.out pre (bareF c) W3 ⟨_, hps.symm⟩ H3.out.1 H3.out.2
        have hy' : (Instr.yield l #[S (bareF c)]).run Tryd.prog W3 = .ok (.round l fn tmps assign body) W3 := hy
        have HR := Lib.hid hR
        have HPS := Lib.hid hps
        clear hy hR he hK hps
        gi_wp2_with fail
        refine ⟨fun h => absurd h (by simp [Fence.wide]), HR.out.mono ?_⟩
        rintro e W4 (⟨rfl, hJ4, hk4⟩ | ⟨rfl, hJx4, hk4⟩)
        · have H4 := Lib.hid (And.intro hJ4 (Nat.le_trans H3.out.2 hk4.size))
          clear hJ4 hk4
          gi_wp2
          exact ⟨⟨pre ++ [bareF c], d, m, rfl, rfl, HD.out.1, HPS.out, H4.out⟩, HD.out.2⟩
        · have H4 := Lib.hid hJx4
          clear hJx4 hk4
          gi_wp2
          refine bodyPost_ret (results_none rfl _ _ _) rfl ?_
          exact ⟨⟨_, rfl⟩, .inr ⟨pre ++ [bareF c], ⟨_, HPS.out.symm⟩, H4.out⟩⟩
    | false =>
      have HP : Hid (partsF s = pre ∧ J pre wr) := Lib.hid ⟨by rw [hp]; unfold moreF; rw [if_neg Bool.false_ne_true, List.append_nil], hJp⟩
      clear hp hJp hsz
      gi_wp2
      go_end0
      exact ⟨⟨_, rfl⟩, .inl (by rw [HP.out.1]; exact HP.out.2)⟩
set_option maxRecDepth 100000 in
set_option maxHeartbeats 400000 in
theorem each_any (s : List UInt8) (w : World) : Calls Tryd.prog 65 #[S s] w fun e w' => e = .returned (.func (.func 76) #[] #[.pointer (some ⟨w.heap.size, 0, none⟩)]) ∧ w' = w.alloc (.cells #[S s] 9) := by
  go_enter Tryd.func65, Tryd.ntmps65
  go_wp2
  go_ret
  exact ⟨rfl, rfl⟩
theorem eachI (s : List UInt8) (hs : s.length ≤ 100000) (w : World) : Calls Tryd.prog 65 #[S s] w fun e w' => ∃ gf lb k Kb, e = .returned (.func (.func gf) #[] lb) ∧ Below w.heap.size w w' ∧ (∀ r, Kb r → w.heap.size ≤ r ∧ r < w'.heap.size) ∧
    (∀ args W, (callFunc gf args).run Tryd.prog W = .ok (.enter gf args) W) ∧ ∀ n, SeqL Tryd.prog n gf lb encS k Kb (partsF s) (fun W => Below w'.heap.size w' W) := by
  refine (each_any s w).mono ?_
  rintro e w' ⟨rfl, rfl⟩
  refine ⟨76, _, 0, (fun r => r = w.heap.size), rfl, (Below.refl _ w).alloc (Nat.le_refl _) _, fun r e => by rw [e]; simp, enters_of Tryd.func76 (by kernel_rfl) rfl, fun n l J Jx W hOk => ?_⟩
  have hr : Row (w.alloc (.cells #[S s] 9)) w.heap.size #[S s] 9 := row_new w _ _
  exact each28_seq s hs w.heap.size n l J Jx W (hr.below hOk hr.lt)
/-- What stands about: the word, and the answer. -/
structure HasW (w : World) (t : List UInt8) (v : Bool) (W : World) : Prop where
  txt : Row W w.heap.size #[S t] 9
  ans : Row W (w.heap.size + 1) #[.bool v] 4
  bel : Below w.heap.size w W
theorem HasW.below {w W W' : World} {t : List UInt8} {v : Bool} (h : HasW w t v W) (hb : Below W.heap.size W W') : HasW w t v W' :=
  ⟨h.txt.below hb h.txt.lt, h.ans.below hb h.ans.lt, h.bel.trans (hb.mono h.bel.size)⟩
theorem HasW.grown {w W W' : World} {t : List UInt8} {v : Bool} {row : Option Nat} (h : HasW w t v W) (hg : W.grownBy W' row) (hr : ∀ k, row = some k → w.heap.size + 2 ≤ k) : HasW w t v W' :=
  ⟨row_grown h.txt hg (fun e => by have := hr _ e.symm; omega), row_grown h.ans hg (fun e => by have := hr _ e.symm; omega), h.bel.grown hg h.bel.size (fun k e => by have := hr k e; omega)⟩
theorem HasW.set {w W : World} {t : List UInt8} {v : Bool} (h : HasW w t v W) (u : Bool) : HasW w t u (W.setCell ⟨w.heap.size + 1, 0, none⟩ (.bool u)) :=
  ⟨h.txt.other (by show w.heap.size ≠ w.heap.size + 1; omega), h.ans.set 0 _, h.bel.setCell (p := ⟨w.heap.size + 1, 0, none⟩) (by show _ ≤ w.heap.size + 1; omega) _⟩
theorem has_end {w W : World} {t : List UInt8} {v x : Bool} {D : Nat} {tmps : Array Value} (h : HasW w t v W) (hv : v = x) (hd : W.heap[D]? = some (.deferred (some []))) (hD : w.heap.size + 2 ≤ D)
    (ht : tmps[4]? = some (.pointer (some ⟨w.heap.size + 1, 0, none⟩))) :
    bodyPostM Fence.wide 5 Tryd.prog Tryd.f57 (fun e w' => e = .returned (.bool x) ∧ Below w.heap.size w w') .ret { tmps := tmps, defers := [{ target := .collected D, args := #[] }] } W := by
  subst hv
  have ca := cell_of_row W _ 0 _ 4 (0, 0) h.ans
  refine ⟨by simp, .inl ⟨_, _, rfl, run_takeDeferred hd, ?_⟩⟩
  have hc : (W.putObj D (.deferred none)).cell? ⟨w.heap.size + 1, 0, none⟩ = some (.bool v) :=
    cell_kept ca (grownBy_putObj' _ _ (.deferred none)) (fun r e => by cases e; exact ⟨_, hd, rfl⟩)
  have hsz := h.bel.size
  refine ⟨.bool v, ?_, rfl, h.bel.grown (grownBy_putObj' _ _ _) hsz (fun k e => by cases e; omega)⟩
  simp [results, Tryd.f57, go_sem, hc, ht]
theorem any_next {q : List UInt8 → Bool} {pre : List (List UInt8)} {x : List UInt8} (h : pre.any q = false) : (pre ++ [x]).any q = q x := by
  rw [List.any_append, h, Bool.false_or]; simp
theorem any_pre {q : List UInt8 → Bool} {pre L : List (List UInt8)} (hp : pre <+: L) (h : pre.any q = true) : L.any q = true := by
  obtain ⟨r, rfl⟩ := hp
  rw [List.any_append, h, Bool.true_or]
set_option maxRecDepth 100000 in
set_option maxHeartbeats 2000000 in
theorem has14_any (s t : List UInt8) (hs : s.length ≤ 100000) (ht : t.length ≤ 100000) (w : World) : Calls Tryd.prog 57 #[S s, S t] w fun e w' => e = .returned (.bool (hasF s t)) ∧ Below w.heap.size w w' := by
  have hle : ∀ p ∈ partsF s, p.length ≤ 100000 := fun p hp => by have := parts_le hp; omega
  have hE := eachI s hs
  have HE := Lib.hid (And.intro hE (And.intro hle ht))
  clear hE hle hs ht
  obtain ⟨W1, hW1⟩ : ∃ W1, W1 = (w.alloc (.cells #[S t] 9)).alloc (.cells #[.bool false] 4) := ⟨_, rfl⟩
  have H1 : Hid (HasW w t false W1) := Lib.hid (by
    rw [hW1]
    refine ⟨(row_new w _ _).alloc _, ?_, ((Below.refl _ w).alloc (Nat.le_refl _) _).alloc (by simp) _⟩
    have := row_new (w.alloc (.cells #[S t] 9)) #[.bool false] 4
    rw [alloc_size] at this; exact this)
  refine (callsIn_wide (n := 5)).1 (callsIn_of_wp_marks Tryd.func57 rfl trivial ?_ rfl)
  simp only [Tryd.ntmps57, List.size_toArray, List.length_cons, List.length_nil, Nat.reduceAdd, Nat.reduceSub, Array.replicate_succ, Array.replicate_zero, List.push_toArray, List.append_toArray, List.nil_append, List.cons_append]
  rw [wpIn_wide]
  go_wp2_with fail
  rw [← hW1]
  clear hW1
  refine (HE.out.1 _).mono ?_
  rintro e W6 ⟨gf, lb, K, Kb, rfl, hB, hKb, eg, hseq⟩
  have H6 : Hid (HasW w t false W6 ∧ (∀ r, Kb r → w.heap.size + 2 ≤ r ∧ r < W6.heap.size) ∧ w.heap.size + 2 ≤ W6.heap.size) := Lib.hid ⟨H1.out.below hB, fun r hr => by have := hKb r hr; have := H1.out.ans.lt; omega, by have := hB.size; have := H1.out.ans.lt; omega⟩
  clear hB H1 hKb
  go_wp2
  rw [← wpIn_wide (n := 5)]
  refine wpIn_rangeFunc_L2 (gf := gf) (lb := lb) rfl eg hseq (fun r hr => (H6.out.2.1 r hr).2) (fun W hb => hb) (fun _ => rfl)
    (fun pre W => (pre.any fun p => alikeF p t) = false ∧ HasW w t false W) (fun c pre W => c = .ret ∧ (pre.any fun p => alikeF p t) = true ∧ HasW w t true W)
    ?hI ?hIx ⟨rfl, H6.out.1⟩ ?round ?done ?stop
  case hI =>
    rintro pre W W' row ⟨hp, h⟩ hg hr
    exact ⟨hp, h.grown hg (fun k e => by have := hr k e; have := H6.out.2.2; omega)⟩
  case hIx =>
    rintro c pre W W' row ⟨hc, hp, h⟩ hg hr
    exact ⟨hc, hp, h.grown hg (fun k e => by have := hr k e; have := H6.out.2.2; omega)⟩
  case round =>
    intro l pre x W1 Kc hpx hKc
    unfold encS
    gi_wp2
    rintro W ⟨hp, hK⟩ hsz
    have hmem : x ∈ partsF s := hpx.subset (List.mem_append.2 (.inr (List.mem_singleton.2 rfl)))
    have hal := alike16_any x t (HE.out.2.1 x hmem) HE.out.2.2 W
    have hnx := any_next (q := fun p => alikeF p t) (x := x) hp
    have ct := cell_of_row W _ 0 _ 9 (0, 0) hK.txt
    have HA := Lib.hid hal
    have HN := Lib.hid (And.intro hK hnx)
    have HZ : Hid (w.heap.size + 2 ≤ W6.heap.size ∧ W6.heap.size ≤ W.heap.size) := Lib.hid ⟨H6.out.2.2, by omega⟩
    clear hal hnx hp hpx hmem hK
    gi_wp2_with fail
    refine ⟨trivial, ((callsIn_wide.2 HA.out).inRound l).mono ?_⟩
    rintro e W2 ⟨rfl, hD⟩
    have hK2 := HN.out.1.below hD.below
    have hkept : Kept (fun r => Kb r ∨ (W6.heap.size ≤ r ∧ r < W6.heap.size + (K + 2))) W W2 := ⟨by rw [hD.heap]; exact Nat.le_refl _, fun r _ => by rw [hD.heap]⟩
    cases hb : alikeF x t with
    | true =>
      have c4 := cell_of_row W2 _ 0 _ 4 (0, 0) hK2.ans
      have f4 := Row.frozen hK2.ans 0
      have HF := Lib.hid (And.intro hkept (And.intro hK2 (HN.out.2.trans hb)))
      clear hkept hK2 hD hb ct
      gi_wp2
      have hg := grown_cell W2 (w.heap.size + 1) 0 (.bool true)
      refine ⟨HF.out.1.trans ⟨hg.size, fun r hr => ?_⟩, rfl, HF.out.2.2, HF.out.2.1.set true⟩
      have hne : r ≠ w.heap.size + 1 := by
        have := HZ.out
        rcases hr with hr | hr
        · have := H6.out.2.1 r hr; omega
        · omega
      exact Below.heap_setCell _ _ _ _ hne
    | false =>
      have HF := Lib.hid (And.intro hkept (And.intro hK2 (HN.out.2.trans hb)))
      clear hkept hK2 hD hb ct
      gi_wp2
      exact ⟨HF.out.1, HF.out.2.2, HF.out.2.1⟩
  case done =>
    rintro W ⟨hp, hK⟩ hD
    have c4 := cell_of_row W _ 0 _ 4 (0, 0) hK.ans
    have f4 := Row.frozen hK.ans 0
    have H7 := Lib.hid (And.intro hp (And.intro hK hD))
    clear hp hK hD
    go_wp2
    exact has_end (H7.out.2.1.set false) H7.out.1.symm ((Below.heap_setCell _ _ _ _ (by show W6.heap.size ≠ w.heap.size + 1; have := H6.out.2.2; omega)).trans H7.out.2.2) H6.out.2.2 rfl
  case stop =>
    rintro c pre W hpre ⟨rfl, hp, hK⟩ hD
    have H7 := Lib.hid (And.intro (any_pre hpre hp) (And.intro hK hD))
    clear hp hK hD
    gi_wp2
    exact has_end H7.out.2.1 H7.out.1.symm H7.out.2.2 H6.out.2.2 rfl
end Go.Proofs.YtnaekjmlikhglaaDoor
