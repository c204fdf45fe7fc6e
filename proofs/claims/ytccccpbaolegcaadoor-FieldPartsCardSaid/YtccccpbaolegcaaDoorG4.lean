/- The landed package's Each: an iterator over a value's parts. -/
import Derived.Test.YtccccpbaolegcaaDoorG3
import Derived.Test.YtccccpbaolegcaaDoorFe
namespace Go.Proofs.YtccccpbaolegcaaDoor
open Go.RowKit Go.Shelf
attribute [local go_sem] store_one Oper.semAt_some S_match S_store

theorem below_grows {W W' : World} (h : Below W.heap.size W W') : W.grownBy W' none := ⟨h.os, h.tape, h.output, h.size, fun k hk _ => h.block k hk⟩
/-- What is still to be told. -/
def moreF (m : Bool) (r : List UInt8) : List (List UInt8) := if m then partsF r else []
def moreN (rv mv : Value) : Nat := match mv with
  | .bool true => slen rv + 1
  | _ => 0
theorem cut_part (r : List UInt8) (hr : r.length ≤ 100000) (w : World) : ∃ c d m, (Calls Tryd.prog 24 #[S r, .string ⟨#[44]⟩] w fun e w' => e = .returned (.tuple #[S c, S d, .bool m]) ∧ Drawn w w') ∧
    partsF r = keepF c ++ moreF m d ∧ c.length ≤ 100000 ∧ d.length ≤ 100000 ∧ moreN (S d) (.bool m) < moreN (S r) (.bool true) := by
  rcases cut_cases 44 r with ⟨a, b, rfl, h⟩ | h
  · rw [List.length_append, List.length_cons] at hr
    refine ⟨a, b, true, cut_hit 44 a b h (by omega) w, ?_, by omega, by omega, ?_⟩
    · rw [parts_join, show partsF a = ptsF [] a from rfl, pts_plain a [] h]; rfl
    · show slen (S b) + 1 < slen (S (a ++ 44 :: b)) + 1
      rw [slen_S, slen_S, List.length_append, List.length_cons]; omega
  · refine ⟨r, [], false, cut_miss 44 r h w, ?_, hr, by simp, ?_⟩
    · rw [show partsF r = ptsF [] r from rfl, pts_plain r [] h]; unfold moreF; rw [if_neg Bool.false_ne_true, List.append_nil]; rfl
    · show 0 < slen (S r) + 1; omega
theorem trim27 (c : List UInt8) (hc : c.length ≤ 100000) (w : World) : Calls Tryd.prog 27 #[S c, .string ⟨#[9, 32]⟩] w fun e w' => e = .returned (S (bareF c)) ∧ Below w.heap.size w w' := trim_any c hc w

set_option maxRecDepth 100000 in
set_option maxHeartbeats 2000000 in
theorem each28_seq (s : List UInt8) (hs : s.length ≤ 100000) (Bs : Nat) (n : Nat) :
    SeqL Tryd.prog n 28 #[.pointer (some ⟨Bs, 0, none⟩)] encS 0 (fun r => r = Bs) (partsF s) (fun W => Row W Bs #[S s] 9) := fun l J Jx W hOk hJ hJx hY h0 => by
  obtain ⟨b, hb⟩ : ∃ b, b = W.heap.size := ⟨_, rfl⟩
  have hBs := hOk.lt
  have hBb : Bs < b := by omega
  have cs : W.cell? ⟨Bs, 0, none⟩ = some (S s) := cell_of_row W Bs 0 _ 9 (0, 0) hOk
  rw [← hb] at hJ hJx hY
  have hnf : ∀ w, (binOp .eql 33 (.func (.yield l) #[] #[]) .nilFunc).run Tryd.prog w = .ok (.bool false) w := eql_nilFunc Tryd.underlying33 _ _ _
  refine callsIn_of_wp Tryd.func28 rfl trivial ?_ rfl
  simp only [Tryd.ntmps28, List.size_toArray, List.length_cons, List.length_nil, Nat.reduceAdd, Nat.reduceSub, Array.replicate_succ, Array.replicate_zero, List.push_toArray, List.append_toArray, List.nil_append, List.cons_append]
  have HJ := Lib.hid (And.intro hJ hJx)
  have HY := Lib.hid hY
  have H0 := Lib.hid (And.intro h0 (And.intro hs (And.intro hb hOk)))
  clear hJ hJx hY h0 hs hb hOk
  gi_wp2
  gi_loopw [3, 4] (fun rv mv wr => ∃ (pre : List (List UInt8)) (r : List UInt8) (m : Bool), rv = S r ∧ mv = .bool m ∧ r.length ≤ 100000 ∧ partsF s = pre ++ moreF m r ∧ J pre wr ∧ b ≤ wr.heap.size) (fun rv mv _ => moreN rv mv)
  case atStart => exact ⟨[], s, true, rfl, rfl, H0.out.2.1, rfl, H0.out.1, by rw [H0.out.2.2.1]; exact Nat.le_refl _⟩
  case round =>
    obtain ⟨pre, r, m, rfl, rfl, hr, hp, hJp, hsz⟩ := hrel
    cases m with
    | true =>
      obtain ⟨c, d, m, hcut, hpc, hc, hd, hlt⟩ := cut_part r hr wr
      have HCUT := Lib.hid hcut
      have HT : Hid (∀ w, Calls Tryd.prog 27 #[S c, .string ⟨#[9, 32]⟩] w fun e w' => e = .returned (S (bareF c)) ∧ Below w.heap.size w w') := Lib.hid (trim27 c hc)
      have HD := Lib.hid (And.intro hd hlt)
      have hp2 : partsF s = pre ++ (keepF c ++ moreF m d) := by rw [hp]; unfold moreF at hpc ⊢; rw [if_pos rfl, hpc]
      have HP := Lib.hid (And.intro hp2 (And.intro hJp hsz))
      clear hcut hpc hc hd hlt hp hp2 hJp hsz hr
      gi_wp2_with fail
      refine ⟨trivial, fun h => absurd h (by simp [Fence.wide]), (callsIn_wide.2 HCUT.out).mono ?_⟩
      rintro e W2 ⟨rfl, hD2⟩
      have HD2 := Lib.hid hD2
      clear hD2
      gi_wp2_with fail
      refine ⟨trivial, fun h => absurd h (by simp [Fence.wide]), (callsIn_wide.2 (HT.out W2)).mono ?_⟩
      rintro e W3 ⟨rfl, hB3⟩
      have hJ3 : J pre W3 := HJ.out.1 pre W2 W3 none (HJ.out.1 pre wr W2 none HP.out.2.1 (HD2.out.grown none) (fun r e => by cases e)) (below_grows hB3) (fun r e => by cases e)
      have hsz3 : b ≤ W3.heap.size := by have := hB3.size; have := HD2.out.heap; have := HP.out.2.2; rw [HD2.out.heap] at *; omega
      have H3 := Lib.hid (And.intro hJ3 hsz3)
      clear hB3 hJ3 hsz3
      by_cases he : bareF c = []
      · have hne : binOp .neq 9 (S (bareF c)) (.string ⟨#[]⟩) = pure (.bool false) := by rw [he]; exact neql_S 9 [] []
        have hng : ∀ x y, eqGuard .neq 9 x y (S (bareF c)) (.string ⟨#[]⟩) = pure () := fun x y => nguard_S 9 x y _ []
        have HK : Hid (keepF c = []) := Lib.hid (keep_none he)
        clear he
        gi_wp2
        refine ⟨fun f e => (by cases e), ?_⟩
        gi_wp2
        exact ⟨⟨pre, d, m, rfl, rfl, HD.out.1, by rw [HP.out.1, HK.out, List.nil_append], H3.out⟩, HD.out.2⟩
      · have hne : binOp .neq 9 (S (bareF c)) (.string ⟨#[]⟩) = pure (.bool true) := by
          refine (neql_S 9 (bareF c) []).trans ?_
          rw [bne_iff_ne.2 he]
        have hng : ∀ x y, eqGuard .neq 9 x y (S (bareF c)) (.string ⟨#[]⟩) = pure () := fun x y => nguard_S 9 x y _ []
        have hK : keepF c = [bareF c] := keep_some he
        have hps : partsF s = (pre ++ [bareF c]) ++ moreF m d := by rw [HP.out.1, hK, List.append_assoc]
        obtain ⟨fn, tmps, assign, body, hy, hR⟩ := HY.out pre (bareF c) W3 ⟨_, hps.symm⟩ H3.out.1 H3.out.2
        have hy' : (Instr.yield l #[S (bareF c)]).run Tryd.prog W3 = .ok (.round l fn tmps assign body) W3 := hy
        have HR := Lib.hid hR
        have HPS := Lib.hid hps
        clear hy hR he hK hps
        gi_wp2_with fail
        refine ⟨fun h => absurd h (by simp [Fence.wide]), HR.out.mono ?_⟩
        rintro e W4 (⟨rfl, hJ4, hk4⟩ | ⟨rfl, hJx4, hk4⟩)
        · have H4 := Lib.hid (And.intro hJ4 (Nat.le_trans H3.out.2 hk4.size))
          clear hJ4 hk4
          gi_wp2
          exact ⟨⟨pre ++ [bareF c], d, m, rfl, rfl, HD.out.1, HPS.out, H4.out⟩, HD.out.2⟩
        · have H4 := Lib.hid hJx4
          clear hJx4 hk4
          gi_wp2
          refine bodyPost_ret (results_none rfl _ _ _) rfl ?_
          exact ⟨⟨_, rfl⟩, .inr ⟨pre ++ [bareF c], ⟨_, HPS.out.symm⟩, H4.out⟩⟩
    | false =>
      have HP : Hid (partsF s = pre ∧ J pre wr) := Lib.hid ⟨by rw [hp]; unfold moreF; rw [if_neg Bool.false_ne_true, List.append_nil], hJp⟩
      clear hp hJp hsz
      gi_wp2
      go_end0
      exact ⟨⟨_, rfl⟩, .inl (by rw [HP.out.1]; exact HP.out.2)⟩
set_option maxRecDepth 100000 in
set_option maxHeartbeats 400000 in
theorem each_any (s : List UInt8) (w : World) : Calls Tryd.prog 11 #[S s] w fun e w' => e = .returned (.func (.func 28) #[] #[.pointer (some ⟨w.heap.size, 0, none⟩)]) ∧ w' = w.alloc (.cells #[S s] 9) := by
  go_enter Tryd.func11, Tryd.ntmps11
  go_wp2
  go_ret
  exact ⟨rfl, rfl⟩
theorem eachI (s : List UInt8) (hs : s.length ≤ 100000) (w : World) : Calls Tryd.prog 11 #[S s] w fun e w' => ∃ gf lb k Kb, e = .returned (.func (.func gf) #[] lb) ∧ Below w.heap.size w w' ∧ (∀ r, Kb r → w.heap.size ≤ r ∧ r < w'.heap.size) ∧
    (∀ args W, (callFunc gf args).run Tryd.prog W = .ok (.enter gf args) W) ∧ ∀ n, SeqL Tryd.prog n gf lb encS k Kb (partsF s) (fun W => Below w'.heap.size w' W) := by
  refine (each_any s w).mono ?_
  rintro e w' ⟨rfl, rfl⟩
  refine ⟨28, _, 0, (fun r => r = w.heap.size), rfl, (Below.refl _ w).alloc (Nat.le_refl _) _, fun r e => by rw [e]; simp, enters_of Tryd.func28 (by kernel_rfl) rfl, fun n l J Jx W hOk => ?_⟩
  have hr : Row (w.alloc (.cells #[S s] 9)) w.heap.size #[S s] 9 := row_new w _ _
  exact each28_seq s hs w.heap.size n l J Jx W (hr.below hOk hr.lt)
end Go.Proofs.YtccccpbaolegcaaDoor
