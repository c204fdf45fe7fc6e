/- Texts of this proof that several statements share, one behind the other. -/
import Derived.Test.YtplajlccnnbifaaGreatDoorJc
import Derived.Test.YtplajlccnnbifaaGreatDoorJa
import Derived.Test.YtplajlccnnbifaaGreatDoorJb
/- The landed field.Each and field.Has walked. (mkrw3.py writes it.) -/
namespace Go.Proofs.YtplajlccnnbifaaGreatDoor
open Go.RowKit Go.Shelf
attribute [local go_sem] store_one Oper.semAt_some S_match S_store

def encS (p : List UInt8) : Array Value := #[S p]
theorem below_grows {W W' : World} (h : Below W.heap.size W W') : W.grownBy W' none := ⟨h.os, h.tape, h.output, h.size, fun k hk _ => h.block k hk⟩
/-- What is still to be told. -/
def moreF (m : Bool) (r : List UInt8) : List (List UInt8) := if m then partsF r else []
def moreN (rv mv : Value) : Nat := match mv with
  | .bool true => slen rv + 1
  | _ => 0
theorem cut_part (r : List UInt8) (hr : r.length ≤ 100000) (w : World) : ∃ c d m, (Calls Tryz.prog 58 #[S r, .string ⟨#[44]⟩] w fun e w' => e = .returned (.tuple #[S c, S d, .bool m]) ∧ Drawn w w') ∧
    partsF r = keepF c ++ moreF m d ∧ c.length ≤ 100000 ∧ d.length ≤ 100000 ∧ moreN (S d) (.bool m) < moreN (S r) (.bool true) := by
  rcases cut_cases 44 r with ⟨a, b, rfl, h⟩ | h
  · rw [List.length_append, List.length_cons] at hr
    refine ⟨a, b, true, cut_hit 44 a b h (by omega) w, ?_, by omega, by omega, ?_⟩
    · rw [parts_join, show partsF a = ptsF [] a from rfl, pts_plain a [] h]; rfl
    · show slen (S b) + 1 < slen (S (a ++ 44 :: b)) + 1
      rw [slen_S, slen_S, List.length_append, List.length_cons]; omega
  · refine ⟨r, [], false, cut_miss 44 r h w, ?_, hr, by simp, ?_⟩
    · rw [show partsF r = ptsF [] r from rfl, pts_plain r [] h]; unfold moreF; rw [if_neg Bool.false_ne_true, List.append_nil]; rfl
    · show 0 < slen (S r) + 1; omega
theorem trim27 (c : List UInt8) (hc : c.length ≤ 100000) (w : World) : Calls Tryz.prog 65 #[S c, .string ⟨#[9, 32]⟩] w fun e w' => e = .returned (S (bareF c)) ∧ Below w.heap.size w w' := trim_any c hc w
set_option maxRecDepth 100000 in
set_option maxHeartbeats 2000000 in
theorem each28_seq (s : List UInt8) (hs : s.length ≤ 100000) (Bs : Nat) (n : Nat) :
    SeqL Tryz.prog n 152 #[.pointer (some ⟨Bs, 0, none⟩)] encS 0 (fun r => r = Bs) (partsF s) (fun W => Row W Bs #[S s] 9) := fun l J Jx W hOk hJ hJx hY h0 => by
  obtain ⟨b, hb⟩ : ∃ b, b = W.heap.size := ⟨_, rfl⟩
  have hBs := hOk.lt
  have hBb : Bs < b := by omega
  have cs : W.cell? ⟨Bs, 0, none⟩ = some (S s) := cell_of_row W Bs 0 _ 9 (0, 0) hOk
  rw [← hb] at hJ hJx hY
  have hnf : ∀ w, (binOp .eql 34 (.func (.yield l) #[] #[]) .nilFunc).run Tryz.prog w = .ok (.bool false) w := eql_nilFunc Tryz.underlying34 _ _ _
  refine callsIn_of_wp Tryz.func152 rfl trivial ?_ rfl
  simp only [Tryz.ntmps152, List.size_toArray, List.length_cons, List.length_nil, Nat.reduceAdd, Nat.reduceSub, Array.replicate_succ, Array.replicate_zero, List.push_toArray, List.append_toArray, List.nil_append, List.cons_append]
  have HJ := Lib.hid (And.intro hJ hJx)
  have HY := Lib.hid hY
  have H0 := Lib.hid (And.intro h0 (And.intro hs (And.intro hb hOk)))
  clear hJ hJx hY h0 hs hb hOk
  gi_wp2
  gi_loopw [3, 4] (fun rv mv wr => ∃ (pre : List (List UInt8)) (r : List UInt8) (m : Bool), rv = S r ∧ mv = .bool m ∧ r.length ≤ 100000 ∧ partsF s = pre ++ moreF m r ∧ J pre wr ∧ b ≤ wr.heap.size) (fun rv mv _ => moreN rv mv)
  case atStart => exact ⟨[], s, true, rfl, rfl, H0.out.2.1, rfl, H0.out.1, by rw [H0.out.2.2.1]; exact Nat.le_refl _⟩
  case round =>
    obtain ⟨pre, r, m, rfl, rfl, hr, hp, hJp, hsz⟩ := hrel
    cases m with
    | true =>
      obtain ⟨c, d, m, hcut, hpc, hc, hd, hlt⟩ := cut_part r hr wr
      have HCUT := Lib.hid hcut
      have HT : Hid (∀ w, Calls Tryz.prog 65 #[S c, .string ⟨#[9, 32]⟩] w fun e w' => e = .returned (S (bareF c)) ∧ Below w.heap.size w w') := Lib.hid (trim27 c hc)
      have HD := Lib.hid (And.intro hd hlt)
      have hp2 : partsF s = pre ++ (keepF c ++ moreF m d) := by rw [hp]; unfold moreF at hpc ⊢; rw [if_pos rfl, hpc]
      have HP := Lib.hid (And.intro hp2 (And.intro hJp hsz))
      clear hcut hpc hc hd hlt hp hp2 hJp hsz hr
      gi_wp2_with fail
      refine ⟨trivial, fun h => absurd h (by simp [Fence.wide]), (callsIn_wide.2 HCUT.out).mono ?_⟩
      rintro e W2 ⟨rfl, hD2⟩
      have HD2 := Lib.hid hD2
      clear hD2
      gi_wp2_with fail
      refine ⟨trivial, fun h => absurd h (by simp [Fence.wide]), (callsIn_wide.2 (HT.out W2)).mono ?_⟩
      rintro e W3 ⟨rfl, hB3⟩
      have hJ3 : J pre W3 := HJ.out.1 pre W2 W3 none (HJ.out.1 pre wr W2 none HP.out.2.1 (HD2.out.grown none) (fun r e => by cases e)) (below_grows hB3) (fun r e => by cases e)
      have hsz3 : b ≤ W3.heap.size := by have := hB3.size; have := HD2.out.heap; have := HP.out.2.2; rw [HD2.out.heap] at *; omega
      have H3 := Lib.hid (And.intro hJ3 hsz3)
      clear hB3 hJ3 hsz3
      by_cases he : bareF c = []
      · have hne : binOp .neq 9 (S (bareF c)) (.string ⟨#[]⟩) = pure (.bool false) := by rw [he]; exact neql_S 9 [] []
        have hng : ∀ x y, eqGuard .neq 9 x y (S (bareF c)) (.string ⟨#[]⟩) = pure () := fun x y => nguard_S 9 x y _ []
        have HK : Hid (keepF c = []) := Lib.hid (keep_none he)
        clear he
        gi_wp2
        refine ⟨fun f e => (by cases e), ?_⟩
        gi_wp2
        exact ⟨⟨pre, d, m, rfl, rfl, HD.out.1, by rw [HP.out.1, HK.out, List.nil_append], H3.out⟩, HD.out.2⟩
      · have hne : binOp .neq 9 (S (bareF c)) (.string ⟨#[]⟩) = pure (.bool true) := by
          refine (neql_S 9 (bareF c) []).trans ?_
          rw [bne_iff_ne.2 he]
        have hng : ∀ x y, eqGuard .neq 9 x y (S (bareF c)) (.string ⟨#[]⟩) = pure () := fun x y => nguard_S 9 x y _ []
        have hK : keepF c = [bareF c] := keep_some he
        have hps : partsF s = (pre ++ [bareF c]) ++ moreF m d := by rw [HP.out.1, hK, List.append_assoc]
        obtain ⟨fn, tmps, assign, body, hy, hR⟩ := HY.out pre (bareF c) W3 ⟨_, hps.symm⟩ H3.out.1 H3.out.2
        have hy' : (Instr.yield l #[S (bareF c)]).run Tryz.prog W3 = .ok (.round l fn tmps assign body) W3 := hy
        have HR := Lib.hid hR
        have HPS := Lib.hid hps
        clear hy hR he hK hps
        gi_wp2_with fail
        refine ⟨fun h => absurd h (by simp [Fence.wide]), HR.out.mono ?_⟩
        rintro e W4 (⟨rfl, hJ4, hk4⟩ | ⟨rfl, hJx4, hk4⟩)
        · have H4 := Lib.hid (And.intro hJ4 (Nat.le_trans H3.out.2 hk4.size))
          clear hJ4 hk4
          gi_wp2
          exact ⟨⟨pre ++ [bareF c], d, m, rfl, rfl, HD.out.1, HPS.out, H4.out⟩, HD.out.2⟩
        · have H4 := Lib.hid hJx4
          clear hJx4 hk4
          gi_wp2
          refine bodyPost_ret (results_none rfl _ _ _) rfl ?_
          exact ⟨⟨_, rfl⟩, .inr ⟨pre ++ [bareF c], ⟨_, HPS.out.symm⟩, H4.out⟩⟩
    | false =>
      have HP : Hid (partsF s = pre ∧ J pre wr) := Lib.hid ⟨by rw [hp]; unfold moreF; rw [if_neg Bool.false_ne_true, List.append_nil], hJp⟩
      clear hp hJp hsz
      gi_wp2
      go_end0
      exact ⟨⟨_, rfl⟩, .inl (by rw [HP.out.1]; exact HP.out.2)⟩
set_option maxRecDepth 100000 in
set_option maxHeartbeats 400000 in
theorem each_any (s : List UInt8) (w : World) : Calls Tryz.prog 146 #[S s] w fun e w' => e = .returned (.func (.func 152) #[] #[.pointer (some ⟨w.heap.size, 0, none⟩)]) ∧ w' = w.alloc (.cells #[S s] 9) := by
  go_enter Tryz.func146, Tryz.ntmps146
  go_wp2
  go_ret
  exact ⟨rfl, rfl⟩
theorem eachI (s : List UInt8) (hs : s.length ≤ 100000) (w : World) : Calls Tryz.prog 146 #[S s] w fun e w' => ∃ gf lb k Kb, e = .returned (.func (.func gf) #[] lb) ∧ Below w.heap.size w w' ∧ (∀ r, Kb r → w.heap.size ≤ r ∧ r < w'.heap.size) ∧
    (∀ args W, (callFunc gf args).run Tryz.prog W = .ok (.enter gf args) W) ∧ ∀ n, SeqL Tryz.prog n gf lb encS k Kb (partsF s) (fun W => Below w'.heap.size w' W) := by
  refine (each_any s w).mono ?_
  rintro e w' ⟨rfl, rfl⟩
  refine ⟨152, _, 0, (fun r => r = w.heap.size), rfl, (Below.refl _ w).alloc (Nat.le_refl _) _, fun r e => by rw [e]; simp, enters_of Tryz.func152 (by kernel_rfl) rfl, fun n l J Jx W hOk => ?_⟩
  have hr : Row (w.alloc (.cells #[S s] 9)) w.heap.size #[S s] 9 := row_new w _ _
  exact each28_seq s hs w.heap.size n l J Jx W (hr.below hOk hr.lt)
/-- What stands about: the word, and the answer. -/
structure HasW (w : World) (t : List UInt8) (v : Bool) (W : World) : Prop where
  txt : Row W w.heap.size #[S t] 9
  ans : Row W (w.heap.size + 1) #[.bool v] 4
  bel : Below w.heap.size w W
theorem HasW.below {w W W' : World} {t : List UInt8} {v : Bool} (h : HasW w t v W) (hb : Below W.heap.size W W') : HasW w t v W' :=
  ⟨h.txt.below hb h.txt.lt, h.ans.below hb h.ans.lt, h.bel.trans (hb.mono h.bel.size)⟩
theorem HasW.grown {w W W' : World} {t : List UInt8} {v : Bool} {row : Option Nat} (h : HasW w t v W) (hg : W.grownBy W' row) (hr : ∀ k, row = some k → w.heap.size + 2 ≤ k) : HasW w t v W' :=
  ⟨row_grown h.txt hg (fun e => by have := hr _ e.symm; omega), row_grown h.ans hg (fun e => by have := hr _ e.symm; omega), h.bel.grown hg h.bel.size (fun k e => by have := hr k e; omega)⟩
theorem HasW.set {w W : World} {t : List UInt8} {v : Bool} (h : HasW w t v W) (u : Bool) : HasW w t u (W.setCell ⟨w.heap.size + 1, 0, none⟩ (.bool u)) :=
  ⟨h.txt.other (by show w.heap.size ≠ w.heap.size + 1; omega), h.ans.set 0 _, h.bel.setCell (p := ⟨w.heap.size + 1, 0, none⟩) (by show _ ≤ w.heap.size + 1; omega) _⟩
theorem has_end {w W : World} {t : List UInt8} {v x : Bool} {D : Nat} {tmps : Array Value} (h : HasW w t v W) (hv : v = x) (hd : W.heap[D]? = some (.deferred (some []))) (hD : w.heap.size + 2 ≤ D)
    (ht : tmps[4]? = some (.pointer (some ⟨w.heap.size + 1, 0, none⟩))) :
    bodyPostM Fence.wide 5 Tryz.prog Tryz.f131 (fun e w' => e = .returned (.bool x) ∧ Below w.heap.size w w') .ret { tmps := tmps, defers := [{ target := .collected D, args := #[] }] } W := by
  subst hv
  have ca := cell_of_row W _ 0 _ 4 (0, 0) h.ans
  refine ⟨by simp, .inl ⟨_, _, rfl, run_takeDeferred hd, ?_⟩⟩
  have hc : (W.putObj D (.deferred none)).cell? ⟨w.heap.size + 1, 0, none⟩ = some (.bool v) :=
    cell_kept ca (grownBy_putObj' _ _ (.deferred none)) (fun r e => by cases e; exact ⟨_, hd, rfl⟩)
  have hsz := h.bel.size
  refine ⟨.bool v, ?_, rfl, h.bel.grown (grownBy_putObj' _ _ _) hsz (fun k e => by cases e; omega)⟩
  simp [results, Tryz.f131, go_sem, hc, ht]
theorem any_next {q : List UInt8 → Bool} {pre : List (List UInt8)} {x : List UInt8} (h : pre.any q = false) : (pre ++ [x]).any q = q x := by
  rw [List.any_append, h, Bool.false_or]; simp
theorem any_pre {q : List UInt8 → Bool} {pre L : List (List UInt8)} (hp : pre <+: L) (h : pre.any q = true) : L.any q = true := by
  obtain ⟨r, rfl⟩ := hp
  rw [List.any_append, h, Bool.true_or]
set_option maxRecDepth 100000 in
set_option maxHeartbeats 2000000 in
theorem has14_any (s t : List UInt8) (hs : s.length ≤ 100000) (ht : t.length ≤ 100000) (w : World) : Calls Tryz.prog 131 #[S s, S t] w fun e w' => e = .returned (.bool (hasF s t)) ∧ Below w.heap.size w w' := by
  have hle : ∀ p ∈ partsF s, p.length ≤ 100000 := fun p hp => by have := parts_le hp; omega
  have hE := eachI s hs
  have HE := Lib.hid (And.intro hE (And.intro hle ht))
  clear hE hle hs ht
  obtain ⟨W1, hW1⟩ : ∃ W1, W1 = (w.alloc (.cells #[S t] 9)).alloc (.cells #[.bool false] 4) := ⟨_, rfl⟩
  have H1 : Hid (HasW w t false W1) := Lib.hid (by
    rw [hW1]
    refine ⟨(row_new w _ _).alloc _, ?_, ((Below.refl _ w).alloc (Nat.le_refl _) _).alloc (by simp) _⟩
    have := row_new (w.alloc (.cells #[S t] 9)) #[.bool false] 4
    rw [alloc_size] at this; exact this)
  refine (callsIn_wide (n := 5)).1 (callsIn_of_wp_marks Tryz.func131 rfl trivial ?_ rfl)
  simp only [Tryz.ntmps131, List.size_toArray, List.length_cons, List.length_nil, Nat.reduceAdd, Nat.reduceSub, Array.replicate_succ, Array.replicate_zero, List.push_toArray, List.append_toArray, List.nil_append, List.cons_append]
  rw [wpIn_wide]
  go_wp2_with fail
  rw [← hW1]
  clear hW1
  refine (HE.out.1 _).mono ?_
  rintro e W6 ⟨gf, lb, K, Kb, rfl, hB, hKb, eg, hseq⟩
  have H6 : Hid (HasW w t false W6 ∧ (∀ r, Kb r → w.heap.size + 2 ≤ r ∧ r < W6.heap.size) ∧ w.heap.size + 2 ≤ W6.heap.size) := Lib.hid ⟨H1.out.below hB, fun r hr => by have := hKb r hr; have := H1.out.ans.lt; omega, by have := hB.size; have := H1.out.ans.lt; omega⟩
  clear hB H1 hKb
  go_wp2
  rw [← wpIn_wide (n := 5)]
  refine wpIn_rangeFunc_L2 (gf := gf) (lb := lb) rfl eg hseq (fun r hr => (H6.out.2.1 r hr).2) (fun W hb => hb) (fun _ => rfl)
    (fun pre W => (pre.any fun p => alikeF p t) = false ∧ HasW w t false W) (fun c pre W => c = .ret ∧ (pre.any fun p => alikeF p t) = true ∧ HasW w t true W)
    ?hI ?hIx ⟨rfl, H6.out.1⟩ ?round ?done ?stop
  case hI =>
    rintro pre W W' row ⟨hp, h⟩ hg hr
    exact ⟨hp, h.grown hg (fun k e => by have := hr k e; have := H6.out.2.2; omega)⟩
  case hIx =>
    rintro c pre W W' row ⟨hc, hp, h⟩ hg hr
    exact ⟨hc, hp, h.grown hg (fun k e => by have := hr k e; have := H6.out.2.2; omega)⟩
  case round =>
    intro l pre x W1 Kc hpx hKc
    unfold encS
    gi_wp2
    rintro W ⟨hp, hK⟩ hsz
    have hmem : x ∈ partsF s := hpx.subset (List.mem_append.2 (.inr (List.mem_singleton.2 rfl)))
    have hal := alike16_any x t (HE.out.2.1 x hmem) HE.out.2.2 W
    have hnx := any_next (q := fun p => alikeF p t) (x := x) hp
    have ct := cell_of_row W _ 0 _ 9 (0, 0) hK.txt
    have HA := Lib.hid hal
    have HN := Lib.hid (And.intro hK hnx)
    have HZ : Hid (w.heap.size + 2 ≤ W6.heap.size ∧ W6.heap.size ≤ W.heap.size) := Lib.hid ⟨H6.out.2.2, by omega⟩
    clear hal hnx hp hpx hmem hK
    gi_wp2_with fail
    refine ⟨trivial, ((callsIn_wide.2 HA.out).inRound l).mono ?_⟩
    rintro e W2 ⟨rfl, hD⟩
    have hK2 := HN.out.1.below hD.below
    have hkept : Kept (fun r => Kb r ∨ (W6.heap.size ≤ r ∧ r < W6.heap.size + (K + 2))) W W2 := ⟨by rw [hD.heap]; exact Nat.le_refl _, fun r _ => by rw [hD.heap]⟩
    cases hb : alikeF x t with
    | true =>
      have c4 := cell_of_row W2 _ 0 _ 4 (0, 0) hK2.ans
      have f4 := Row.frozen hK2.ans 0
      have HF := Lib.hid (And.intro hkept (And.intro hK2 (HN.out.2.trans hb)))
      clear hkept hK2 hD hb ct
      gi_wp2
      have hg := grown_cell W2 (w.heap.size + 1) 0 (.bool true)
      refine ⟨HF.out.1.trans ⟨hg.size, fun r hr => ?_⟩, rfl, HF.out.2.2, HF.out.2.1.set true⟩
      have hne : r ≠ w.heap.size + 1 := by
        have := HZ.out
        rcases hr with hr | hr
        · have := H6.out.2.1 r hr; omega
        · omega
      exact Below.heap_setCell _ _ _ _ hne
    | false =>
      have HF := Lib.hid (And.intro hkept (And.intro hK2 (HN.out.2.trans hb)))
      clear hkept hK2 hD hb ct
      gi_wp2
      exact ⟨HF.out.1, HF.out.2.2, HF.out.2.1⟩
  case done =>
    rintro W ⟨hp, hK⟩ hD
    have c4 := cell_of_row W _ 0 _ 4 (0, 0) hK.ans
    have f4 := Row.frozen hK.ans 0
    have H7 := Lib.hid (And.intro hp (And.intro hK hD))
    clear hp hK hD
    go_wp2
    exact has_end (H7.out.2.1.set false) H7.out.1.symm ((Below.heap_setCell _ _ _ _ (by show W6.heap.size ≠ w.heap.size + 1; have := H6.out.2.2; omega)).trans H7.out.2.2) H6.out.2.2 rfl
  case stop =>
    rintro c pre W hpre ⟨rfl, hp, hK⟩ hD
    have H7 := Lib.hid (And.intro (any_pre hpre hp) (And.intro hK hD))
    clear hp hK hD
    gi_wp2
    exact has_end H7.out.2.1 H7.out.1.symm H7.out.2.2 H6.out.2.2 rfl
end Go.Proofs.YtplajlccnnbifaaGreatDoor
/- A reply's line, and what the statements ask of it. -/
namespace Go.Proofs.YtplajlccnnbifaaGreatDoor
open Go.RowKit

/-- HTTP/1.1 and a blank. -/
def httpS : List UInt8 := [72, 84, 84, 80, 47, 49, 46, 49, 32]
def digB (c : UInt8) : Bool := decide (48 ≤ c.toNat) && decide (c.toNat ≤ 57)
def codeN (a b c : UInt8) : Nat := 100 * (a.toNat - 48) + 10 * (b.toNat - 48) + (c.toNat - 48)
def statusF (s : List UInt8) : Nat × List UInt8 × Bool :=
  match s.drop 9 with
  | a :: b :: c :: 32 :: r => if s.take 9 = httpS ∧ digB a = true ∧ digB b = true ∧ digB c = true ∧ 49 ≤ a.toNat ∧ a.toNat ≤ 53 ∧ r.any badB = false then (codeN a b c, r, true) else (0, [], false)
  | _ => (0, [], false)
def statusV (p : Nat × List UInt8 × Bool) : Value := .tuple #[.int .i64 (p.1 : Int), S p.2.1, .bool p.2.2]
/-- The three digits of a code. -/
def dig3 (n : Nat) : List UInt8 := [UInt8.ofNat (48 + n / 100), UInt8.ofNat (48 + n / 10 % 10), UInt8.ofNat (48 + n % 10)]
theorem dec3 {n : Nat} (h1 : 100 ≤ n) (h2 : n ≤ 999) : Lib.decDigits n = dig3 n := by
  rw [Lib.decDigits, dif_neg (by omega), Lib.decDigits, dif_neg (by omega), Lib.decDigits, dif_pos (by omega)]
  unfold dig3
  have e : n / 10 / 10 = n / 100 := by omega
  rw [e]; rfl
theorem itoa3 {n : Nat} (h1 : 100 ≤ n) (h2 : n ≤ 999) : Lib.itoa (n : Int) = dig3 n := by
  unfold Lib.itoa
  rw [if_neg (by omega), show (n : Int).toNat = n by omega, dec3 h1 h2]
theorem dig_nat {k : Nat} (h : k ≤ 9) : (UInt8.ofNat (48 + k)).toNat = 48 + k := by
  rw [UInt8.toNat_ofNat']; omega
theorem status_false {s r : List UInt8} {c : Nat} (h : statusF s = (c, r, false)) : c = 0 ∧ r = [] := by
  unfold statusF at h
  split at h
  · split at h
    · cases h
    · cases h; exact ⟨rfl, rfl⟩
  · cases h; exact ⟨rfl, rfl⟩
theorem dig_of {a : UInt8} (h : digB a = true) : 48 ≤ a.toNat ∧ a.toNat ≤ 57 ∧ a = UInt8.ofNat (48 + (a.toNat - 48)) := by
  unfold digB at h
  rw [Bool.and_eq_true, decide_eq_true_eq, decide_eq_true_eq] at h
  refine ⟨h.1, h.2, ?_⟩
  rw [show 48 + (a.toNat - 48) = a.toNat by omega, UInt8.ofNat_toNat]
/-- What is read of a reply's line is put together as it. -/
theorem status_true {s r : List UInt8} {c : Nat} (h : statusF s = (c, r, true)) : 100 ≤ c ∧ c ≤ 599 ∧ r.any badB = false ∧ s = httpS ++ (dig3 c ++ 32 :: r) ∧ r.length ≤ s.length := by
  unfold statusF at h
  split at h
  · rename_i x a b c' r' hd
    split at h
    · rename_i hc
      obtain ⟨h9, ha, hb, hc', h1, h5, hr⟩ := hc
      cases h
      obtain ⟨a1, a2, a3⟩ := dig_of ha
      obtain ⟨b1, b2, b3⟩ := dig_of hb
      obtain ⟨c1, c2, c3⟩ := dig_of hc'
      have hs : s = httpS ++ (a :: b :: c' :: 32 :: r) := by rw [← h9, ← hd, List.take_append_drop]
      refine ⟨by unfold codeN; omega, by unfold codeN; omega, hr, ?_, by rw [hs]; simp; omega⟩
      have e1 : codeN a b c' / 100 = a.toNat - 48 := by unfold codeN; omega
      have e2 : codeN a b c' / 10 % 10 = b.toNat - 48 := by unfold codeN; omega
      have e3 : codeN a b c' % 10 = c'.toNat - 48 := by unfold codeN; omega
      rw [hs]
      unfold dig3
      rw [e1, e2, e3, ← a3, ← b3, ← c3]; rfl
    · cases h
  · cases h
/-- A code of three digits and a reason. -/
theorem status_code {n : Nat} (r : List UInt8) (h1 : 100 ≤ n) (h2 : n ≤ 999) : statusF (httpS ++ (dig3 n ++ 32 :: r)) = if n ≤ 599 ∧ r.any badB = false then (n, r, true) else (0, [], false) := by
  have hd : (httpS ++ (dig3 n ++ 32 :: r)).drop 9 = UInt8.ofNat (48 + n / 100) :: UInt8.ofNat (48 + n / 10 % 10) :: UInt8.ofNat (48 + n % 10) :: 32 :: r := rfl
  have ht : (httpS ++ (dig3 n ++ 32 :: r)).take 9 = httpS := rfl
  have ea := dig_nat (k := n / 100) (by omega)
  have eb := dig_nat (k := n / 10 % 10) (by omega)
  have ec := dig_nat (k := n % 10) (by omega)
  have dg : ∀ k, k ≤ 9 → digB (UInt8.ofNat (48 + k)) = true := fun k hk => by
    unfold digB; rw [dig_nat hk, decide_eq_true (by omega), decide_eq_true (by omega)]; rfl
  unfold statusF
  rw [hd]
  simp only
  rw [ht]
  have hcode : codeN (UInt8.ofNat (48 + n / 100)) (UInt8.ofNat (48 + n / 10 % 10)) (UInt8.ofNat (48 + n % 10)) = n := by unfold codeN; rw [ea, eb, ec]; omega
  rw [hcode]
  by_cases hc : n ≤ 599 ∧ r.any badB = false
  · rw [if_pos hc, if_pos ⟨rfl, dg _ (by omega), dg _ (by omega), dg _ (by omega), by rw [ea]; omega, by rw [ea]; omega, hc.2⟩]
  · rw [if_neg hc, if_neg]
    rintro ⟨_, _, _, _, _, h5, hr⟩
    rw [ea] at h5
    exact hc ⟨by omega, hr⟩
end Go.Proofs.YtplajlccnnbifaaGreatDoor
/- The landed package's way, as list functions: what its loops tell is the document's answer. -/
namespace Go.Proofs.YtplajlccnnbifaaGreatDoor
open Go.RowKit

/-! A request's line, cut at its blanks. -/
def hver0 : List UInt8 := [72, 84, 84, 80, 47, 49, 46, 48]
def hver1 : List UInt8 := [72, 84, 84, 80, 47, 49, 46, 49]
def verN (s : List UInt8) : Nat := if s = hver0 then 10 else if s = hver1 then 11 else 0
theorem line_miss {s : List UInt8} (h : 32 ∉ s) : lineF s = ([], [], 0, false) := by
  have hall : s.all (notB 32) = true := by
    rw [List.all_eq_true]; intro c hc; unfold notB; rw [bne_iff_ne]; rintro rfl; exact h hc
  have e : s.takeWhile (notB 32) = s := by
    have := List.takeWhile_append_of_pos (p := notB 32) (l₁ := s) (l₂ := []) (by simpa using hall)
    simpa using this
  unfold lineF
  simp only
  rw [e, List.drop_of_length_le (by omega)]
  rw [if_neg (by simp)]
theorem notin_all {k : UInt8} {a : List UInt8} (h : k ∉ a) : a.all (notB k) = true := by
  rw [List.all_eq_true]; intro c hc; unfold notB; rw [bne_iff_ne]; rintro rfl; exact h hc
theorem line_one {m r : List UInt8} (hm : 32 ∉ m) : lineF (m ++ 32 :: r) = if tokF m = true ∧ r.takeWhile visB ≠ [] then (if r.drop (r.takeWhile visB).length = http0 then (m, r.takeWhile visB, 10, true) else if r.drop (r.takeWhile visB).length = http1 then (m, r.takeWhile visB, 11, true) else ([], [], 0, false)) else ([], [], 0, false) := by
  unfold lineF
  simp only
  rw [take_while_stop (notin_all hm) rfl]
  have : (m ++ 32 :: r).drop (m.length + 1) = r := by rw [List.drop_append, List.drop_of_length_le (by omega), show m.length + 1 - m.length = 1 by omega]; rfl
  rw [this]
theorem drop_mem {k : UInt8} {r q : List UInt8} {n : Nat} (h : r.drop n = k :: q) : k ∈ r := by
  have : k ∈ r.drop n := by rw [h]; exact List.mem_cons_self
  exact List.mem_of_mem_drop this
theorem line_miss2 {m r : List UInt8} (hm : 32 ∉ m) (hr : 32 ∉ r) : lineF (m ++ 32 :: r) = ([], [], 0, false) := by
  rw [line_one hm]
  split
  · have n0 : ¬ (r.drop (r.takeWhile visB).length = http0) := fun e => hr (drop_mem (k := 32) (q := http0.tail) e)
    have n1 : ¬ (r.drop (r.takeWhile visB).length = http1) := fun e => hr (drop_mem (k := 32) (q := http1.tail) e)
    rw [if_neg n0, if_neg n1]
  · rfl
theorem while_drop (p : UInt8 → Bool) : ∀ (t : List UInt8), t.all p = false → ∀ q, ∃ c r, (t ++ q).drop ((t ++ q).takeWhile p).length = c :: r ∧ p c = false ∧ c ∈ t
  | [], h, _ => by cases h
  | c :: t, h, q => by
    cases hc : p c with
    | false =>
      refine ⟨c, t ++ q, ?_, hc, List.mem_cons_self⟩
      rw [List.cons_append, List.takeWhile_cons, hc]; rfl
    | true =>
      rw [List.all_cons, hc, Bool.true_and] at h
      obtain ⟨d, r, h1, h2, h3⟩ := while_drop p t h q
      refine ⟨d, r, ?_, h2, List.mem_cons_of_mem _ h3⟩
      rw [List.cons_append, List.takeWhile_cons, if_pos hc, List.length_cons, List.drop_succ_cons]
      exact h1
theorem line_two {m t l : List UInt8} (hm : 32 ∉ m) (ht : 32 ∉ t) : lineF (m ++ 32 :: (t ++ 32 :: l)) = if (tokF m && (t.all visB && t != []) && verN l != 0) = true then (m, t, verN l, true) else ([], [], 0, false) := by
  rw [line_one hm]
  cases hv : t.all visB with
  | false =>
    obtain ⟨c, r, h1, h2, h3⟩ := while_drop visB t hv (32 :: l)
    have hc : c ≠ 32 := fun e => ht (by rw [← e]; exact h3)
    rw [h1, Bool.false_and, Bool.and_false, Bool.false_and, if_neg Bool.false_ne_true]
    split
    · have n0 : ¬ (c :: r = http0) := fun e => hc (List.cons.inj (show c :: r = 32 :: http0.tail from e)).1
      have n1 : ¬ (c :: r = http1) := fun e => hc (List.cons.inj (show c :: r = 32 :: http1.tail from e)).1
      rw [if_neg n0, if_neg n1]
    · rfl
  | true =>
    have e1 : (t ++ 32 :: l).takeWhile visB = t := take_while_stop hv rfl
    have e2 : (t ++ 32 :: l).drop t.length = 32 :: l := List.drop_left
    rw [e1, e2]
    have h0 : (32 :: l = http0) = (l = hver0) := by unfold http0 hver0; simp
    have h1 : (32 :: l = http1) = (l = hver1) := by unfold http1 hver1; simp
    simp only [h0, h1]
    unfold verN
    by_cases a : tokF m = true
    · by_cases b : t = []
      · simp [a, b]
      · by_cases c : l = hver0
        · simp [a, b, c]
        · by_cases d : l = hver1
          · subst d
            have n10 : hver1 ≠ hver0 := by decide
            simp [a, b, n10]
          · simp [a, b, c, d]
    · simp [a]

/-! A target: each of its bytes is told, or begins an escape. -/
def escF : List UInt8 → Bool
  | c :: x :: y :: _ => c == 37 && hexB x && hexB y
  | _ => false
def wrF (p : UInt8 → Bool) : List UInt8 → Bool
  | [] => true
  | c :: r => (p c || escF (c :: r)) && wrF p r
def queryB (c : UInt8) : Bool := c == 63 || pathB c
theorem hex_path (c : UInt8) (h : hexB c = true) : pathB c = true := by
  have := all_bytes (p := fun c => !hexB c || pathB c) (by decide +kernel) c
  simpa [h] using this
theorem esc_not {c : UInt8} {r : List UInt8} (h : c ≠ 37) : escF (c :: r) = false := by
  match r with
  | [] => rfl
  | [_] => rfl
  | x :: y :: r =>
    have : escF (c :: x :: y :: r) = (c == 37 && hexB x && hexB y) := rfl
    rw [this, show (c == 37) = false from beq_eq_false_iff_ne.2 h]; rfl
/-- Any function that tells a path's characters, and of the others at most the question mark. -/
theorem wr_ok {p : UInt8 → Bool} (hp : ∀ c, c ≠ 63 → p c = pathB c) : ∀ (n : Nat) (s : List UInt8), s.length ≤ n → (63 ∈ s → p 63 = true) → wrF p s = okT s
  | 0, s, hn, _ => by
    obtain rfl := List.length_eq_zero_iff.1 (Nat.le_zero.1 hn); rfl
  | n + 1, [], _, _ => rfl
  | n + 1, c :: r, hn, hq => by
    simp only [List.length_cons] at hn
    have ih := wr_ok hp n r (by omega) (fun h => hq (List.mem_cons_of_mem _ h))
    by_cases hc : c = 37
    · subst hc
      have h37 : p 37 = false := by rw [hp 37 (by decide)]; exact path_pct
      rw [wrF, h37, Bool.false_or]
      by_cases hr : ∃ x y q, r = x :: y :: q ∧ hexB x = true ∧ hexB y = true
      · obtain ⟨x, y, q, rfl, hx, hy⟩ := hr
        rw [okT_pct hx hy, ih, okT_one (hex_not x hx).1, okT_one (hex_not y hy).1, hex_path x hx, hex_path y hy]
        simp [escF, hx, hy]
      · rw [okT_bad (fun x y q e he => hr ⟨x, y, q, e, he⟩)]
        have : escF (37 :: r) = false := by
          match r, hr with
          | [], _ => rfl
          | [_], _ => rfl
          | x :: y :: q, hr =>
            cases he : escF (37 :: x :: y :: q) with
            | false => rfl
            | true =>
              unfold escF at he
              simp only [beq_self_eq_true, Bool.true_and, Bool.and_eq_true] at he
              exact absurd ⟨x, y, q, rfl, he.1, he.2⟩ hr
        rw [this, Bool.false_and]
    · rw [wrF, esc_not hc, Bool.or_false, okT_one hc, ih]
      by_cases h63 : c = 63
      · subst h63
        rw [hq List.mem_cons_self]; rfl
      · rw [hp c h63, show (c == 63) = false from beq_eq_false_iff_ne.2 h63, Bool.false_or]
theorem wr_path {s : List UInt8} (h : 63 ∉ s) : wrF pathB s = okT s := wr_ok (fun _ _ => rfl) _ s (Nat.le_refl _) (fun e => absurd e h)
theorem wr_query (s : List UInt8) : wrF queryB s = okT s := wr_ok (fun c h => by unfold queryB; rw [show (c == 63) = false from beq_eq_false_iff_ne.2 h, Bool.false_or]) _ s (Nat.le_refl _) (fun _ => rfl)
theorem target_bad {s : List UInt8} (h : s[0]? ≠ some 47) : targetF s = ([], [], false) := by unfold targetF; rw [if_pos (.inl h)]
theorem targ_miss {s : List UInt8} (h0 : s[0]? = some 47) (hl : s.length ≤ 512) (hq : 63 ∉ s) : targetF s = if (wrF pathB s && wrF queryB []) = true then (s, [], true) else ([], [], false) := by
  rw [wr_path hq]
  cases ho : okT s with
  | true => rw [target_path h0 hl ho hq]; rfl
  | false => rw [target_none ho]; rfl
theorem targ_hit {a b : List UInt8} (h0 : (a ++ 63 :: b)[0]? = some 47) (hl : (a ++ 63 :: b).length ≤ 512) (hq : 63 ∉ a) : targetF (a ++ 63 :: b) = if (wrF pathB a && wrF queryB b) = true then (a, b, true) else ([], [], false) := by
  rw [wr_path hq, wr_query]
  have ha0 : 0 < a.length := by
    cases a with
    | nil => cases h0
    | cons => simp
  rw [List.getElem?_append_left ha0] at h0
  rw [List.length_append, List.length_cons] at hl
  cases ho : okT a with
  | false =>
    rw [target_none]
    · rfl
    · cases hab : okT (a ++ 63 :: b) with
      | false => rfl
      | true => rw [(okT_mark _ a b (Nat.le_refl _) hq hab).1] at ho; cases ho
  | true =>
    cases hob : okT b with
    | true =>
      have := target_query h0 (by omega) ho hob hq
      rw [show (a ++ [63]) ++ b = a ++ 63 :: b by simp] at this
      rw [this]; rfl
    | false =>
      rw [target_none]
      · rfl
      · rw [okT_append _ a _ (Nat.le_refl _) ho, okT_one (by decide), hob, Bool.and_false]

/-! A reply's line. -/
def codeOfF : List UInt8 → Nat
  | [a, b, c] => if digB a = true ∧ digB b = true ∧ digB c = true ∧ 49 ≤ a.toNat ∧ a.toNat ≤ 53 then codeN a b c else 0
  | _ => 0
theorem code_none {d : List UInt8} (h : d.length ≠ 3) : codeOfF d = 0 := by
  match d, h with
  | [], _ => rfl
  | [_], _ => rfl
  | [_, _], _ => rfl
  | [_, _, _], h => exact absurd rfl h
  | _ :: _ :: _ :: _ :: _, _ => rfl
theorem cut_same {k : UInt8} {a a' b b' : List UInt8} (h : a ++ k :: b = a' ++ k :: b') (ha : k ∉ a) (ha' : k ∉ a') : a = a' ∧ b = b' := by
  have e1 := take_while_stop (notin_all ha) (r := b) (c := k) (by unfold notB; simp)
  have e2 := take_while_stop (notin_all ha') (r := b') (c := k) (by unfold notB; simp)
  rw [h, e2] at e1
  subst e1
  exact ⟨rfl, (List.cons.inj (List.append_cancel_left h)).2⟩
theorem dig_ne {n : Nat} (h : n ≤ 9) : UInt8.ofNat (48 + n) ≠ 32 := fun e => by
  have := congrArg UInt8.toNat e
  rw [dig_nat h] at this
  have : 48 + n = 32 := this
  omega
theorem dig3_ne {n : Nat} (h1 : 100 ≤ n) (h2 : n ≤ 599) : 32 ∉ dig3 n := by
  unfold dig3
  simp only [List.mem_cons, List.not_mem_nil, or_false]
  rintro (e | e | e)
  · exact dig_ne (by omega) e.symm
  · exact dig_ne (by omega) e.symm
  · exact dig_ne (by omega) e.symm
theorem http_cut (r : List UInt8) : httpS ++ r = hver1 ++ 32 :: r := rfl
/-- Any answer that tells a reply's line is put together as it. -/
theorem status_no {s : List UInt8} (h : ∀ c r, 100 ≤ c → c ≤ 599 → r.any badB = false → s ≠ hver1 ++ 32 :: (dig3 c ++ 32 :: r)) : statusF s = (0, [], false) := by
  obtain ⟨⟨c, r, k⟩, hp⟩ : ∃ p, statusF s = p := ⟨_, rfl⟩
  cases k with
  | true =>
    obtain ⟨h1, h2, h3, h4, _⟩ := status_true hp
    exact absurd (h4.trans (http_cut _)) (h c r h1 h2 h3)
  | false => obtain ⟨rfl, rfl⟩ := status_false hp; exact hp
theorem stat_miss {s : List UInt8} (h : 32 ∉ s) : statusF s = (0, [], false) := status_no fun c r _ _ _ e => h (by rw [e]; simp)
theorem stat_miss2 {v r : List UInt8} (hv : 32 ∉ v) (hr : 32 ∉ r) : statusF (v ++ 32 :: r) = (0, [], false) := status_no fun c q _ _ _ e => by
  obtain ⟨_, e2⟩ := cut_same e hv (by decide)
  exact hr (by rw [e2]; simp)
theorem code_pos {d : List UInt8} (h : codeOfF d ≠ 0) : ∃ a b c, d = [a, b, c] ∧ digB a = true ∧ digB b = true ∧ digB c = true ∧ 49 ≤ a.toNat ∧ a.toNat ≤ 53 ∧ codeOfF d = codeN a b c := by
  match d, h with
  | [], h => exact absurd rfl h
  | [_], h => exact absurd rfl h
  | [_, _], h => exact absurd rfl h
  | [a, b, c], h =>
    have e : codeOfF [a, b, c] = if digB a = true ∧ digB b = true ∧ digB c = true ∧ 49 ≤ a.toNat ∧ a.toNat ≤ 53 then codeN a b c else 0 := rfl
    by_cases hc : digB a = true ∧ digB b = true ∧ digB c = true ∧ 49 ≤ a.toNat ∧ a.toNat ≤ 53
    · exact ⟨a, b, c, rfl, hc.1, hc.2.1, hc.2.2.1, hc.2.2.2.1, hc.2.2.2.2, by rw [e, if_pos hc]⟩
    · rw [e, if_neg hc] at h
      exact absurd rfl h
  | _ :: _ :: _ :: _ :: _, h => exact absurd rfl h
theorem code_dig3 {n : Nat} (h1 : 100 ≤ n) (h2 : n ≤ 599) : codeOfF (dig3 n) ≠ 0 := by
  have ea := dig_nat (k := n / 100) (by omega)
  have eb := dig_nat (k := n / 10 % 10) (by omega)
  have ec := dig_nat (k := n % 10) (by omega)
  have dg : ∀ k, k ≤ 9 → digB (UInt8.ofNat (48 + k)) = true := fun k hk => by
    unfold digB; rw [dig_nat hk, decide_eq_true (by omega), decide_eq_true (by omega)]; rfl
  have e : ∀ a b c : UInt8, codeOfF [a, b, c] = if digB a = true ∧ digB b = true ∧ digB c = true ∧ 49 ≤ a.toNat ∧ a.toNat ≤ 53 then codeN a b c else 0 := fun _ _ _ => rfl
  unfold dig3
  rw [e, if_pos ⟨dg _ (by omega), dg _ (by omega), dg _ (by omega), by rw [ea]; omega, by rw [ea]; omega⟩]
  unfold codeN
  rw [ea]; omega
theorem stat_two {v d r : List UInt8} (hv : 32 ∉ v) (hd : 32 ∉ d) : statusF (v ++ 32 :: (d ++ 32 :: r)) = if (v == hver1 && codeOfF d != 0 && r.all valB) = true then (codeOfF d, r, true) else (0, [], false) := by
  by_cases hc : (v == hver1 && codeOfF d != 0 && r.all valB) = true
  · rw [if_pos hc]
    simp only [Bool.and_eq_true, beq_iff_eq, bne_iff_ne] at hc
    obtain ⟨⟨rfl, h0⟩, hr⟩ := hc
    obtain ⟨a, b, c, rfl, ha, hb, hc', h1, h5, hcd⟩ := code_pos h0
    rw [hcd]
    have hbad : r.any badB = false := by rw [val_bad] at hr; simpa using hr
    unfold statusF
    have e1 : (hver1 ++ 32 :: ([a, b, c] ++ 32 :: r)).drop 9 = a :: b :: c :: 32 :: r := rfl
    have e2 : (hver1 ++ 32 :: ([a, b, c] ++ 32 :: r)).take 9 = httpS := rfl
    rw [e1, e2]
    simp only
    rw [if_pos ⟨trivial, ha, hb, hc', h1, h5, hbad⟩]
  · rw [if_neg hc]
    refine status_no fun c q h1 h2 hq e => hc ?_
    obtain ⟨rfl, e2⟩ := cut_same e hv (by decide)
    obtain ⟨rfl, rfl⟩ := cut_same e2 hd (dig3_ne h1 h2)
    simp only [Bool.and_eq_true, beq_iff_eq, bne_iff_ne]
    exact ⟨⟨trivial, code_dig3 h1 h2⟩, by rw [val_bad, hq]; rfl⟩
/-- What field.Parse tells of x: ahead of a text. -/
theorem parse_x (s : List UInt8) : (parseF (120 :: 58 :: s)).2.2 = s.all valB := by
  have h := parse_cut [120] s (by decide)
  rw [show ([120] : List UInt8) ++ 58 :: s = 120 :: 58 :: s from rfl] at h
  rw [h, show tokF [120] = true by decide, Bool.true_and]
  cases s.all valB <;> rfl
end Go.Proofs.YtplajlccnnbifaaGreatDoor
/- The landed package of lines walked: its bytes and its loops, without Status. (mkrw.py writes it out of XLv.) -/
namespace Go.Proofs.YtplajlccnnbifaaGreatDoor
open Go.RowKit
attribute [local go_sem] store_one S_match S_store eguard_BN nguard_BN

theorem B_lss (t : TypeId) (x : UInt8) (k : Int) : binOp .lss t (B x) (.int .u8 k) = pure (.bool (decide ((x.toNat : Int) < k))) := rfl
theorem B_gtr (t : TypeId) (x : UInt8) (k : Int) : binOp .gtr t (B x) (.int .u8 k) = pure (.bool (decide (k < (x.toNat : Int)))) := rfl
theorem hex_small : ∀ n : Fin 256, hexB (UInt8.ofNat n.1) = ((decide (48 ≤ n.1) && decide (n.1 ≤ 57)) || (decide (97 ≤ n.1) && decide (n.1 ≤ 102)) || (decide (65 ≤ n.1) && decide (n.1 ≤ 70))) := by decide +kernel
theorem hex_eq (c : UInt8) : hexB c = ((decide (48 ≤ c.toNat) && decide (c.toNat ≤ 57)) || (decide (97 ≤ c.toNat) && decide (c.toNat ≤ 102)) || (decide (65 ≤ c.toNat) && decide (c.toNat ≤ 70))) := by
  have := hex_small ⟨c.toNat, c.toNat_lt⟩
  simp only [UInt8.ofNat_toNat] at this
  exact this
def pmarkL : List UInt8 := [45, 46, 95, 126, 33, 36, 38, 39, 40, 41, 42, 43, 44, 59, 61, 58, 64, 47]
theorem path_small : ∀ n : Fin 256, pathB (UInt8.ofNat n.1) = ((decide (65 ≤ n.1) && decide (n.1 ≤ 90)) || (decide (97 ≤ n.1) && decide (n.1 ≤ 122)) || (decide (48 ≤ n.1) && decide (n.1 ≤ 57)) || pmarkL.contains (UInt8.ofNat n.1)) := by decide +kernel
theorem path_eq (c : UInt8) : pathB c = ((decide (65 ≤ c.toNat) && decide (c.toNat ≤ 90)) || (decide (97 ≤ c.toNat) && decide (c.toNat ≤ 122)) || (decide (48 ≤ c.toNat) && decide (c.toNat ≤ 57)) || pmarkL.contains c) := by
  have := path_small ⟨c.toNat, c.toNat_lt⟩
  simp only [UInt8.ofNat_toNat] at this
  exact this

set_option maxRecDepth 100000 in
set_option maxHeartbeats 1000000 in
theorem inten_any (c : UInt8) (w : World) : Calls Tryz.prog 95 #[B c] w fun e w' => e = .returned (.bool (digB c)) ∧ w' = w := by
  have h1 := B_geq 5 c 48
  have h2 := B_leq 5 c 57
  rcases (by omega : c.toNat < 48 ∨ (48 ≤ c.toNat ∧ c.toNat ≤ 57) ∨ 57 < c.toNat) with a | a | a
  · rw [show digB c = false by unfold digB; simp; omega]
    rw [decide_eq_false (by omega)] at h1
    clear h2 a
    go_enter Tryz.func95, Tryz.ntmps95
    go_wp2
    go_ret
    exact ⟨rfl, rfl⟩
  · rw [show digB c = true by unfold digB; simp; omega]
    rw [decide_eq_true (by omega)] at h1 h2
    clear a
    go_enter Tryz.func95, Tryz.ntmps95
    go_wp2
    go_ret
    exact ⟨rfl, rfl⟩
  · rw [show digB c = false by unfold digB; simp; omega]
    rw [decide_eq_true (by omega)] at h1
    rw [decide_eq_false (by omega)] at h2
    clear a
    go_enter Tryz.func95, Tryz.ntmps95
    go_wp2
    go_ret
    exact ⟨rfl, rfl⟩
set_option maxRecDepth 100000 in
set_option maxHeartbeats 1000000 in
theorem insix_any (c : UInt8) (w : World) : Calls Tryz.prog 115 #[B c] w fun e w' => e = .returned (.bool (hexB c)) ∧ w' = w := by
  have h1 := B_geq 5 c 97
  have h2 := B_leq 5 c 102
  have h3 := B_geq 5 c 65
  have h4 := B_leq 5 c 70
  have HT := Lib.hid (fun w => inten_any c w)
  have hE := hex_eq c
  rcases (by omega : c.toNat < 48 ∨ (48 ≤ c.toNat ∧ c.toNat ≤ 57) ∨ (57 < c.toNat ∧ c.toNat < 65) ∨ (65 ≤ c.toNat ∧ c.toNat ≤ 70) ∨ (70 < c.toNat ∧ c.toNat < 97) ∨ (97 ≤ c.toNat ∧ c.toNat ≤ 102) ∨ 102 < c.toNat) with a | a | a | a | a | a | a
  · rw [show hexB c = false by rw [hE]; simp; omega]
    rw [decide_eq_false (by omega)] at h1 h3
    rw [show digB c = false by unfold digB; simp; omega] at HT
    clear h2 h4 a hE
    go_enter Tryz.func115, Tryz.ntmps115
    go_wp2_with fail
    refine (HT.out w).mono ?_
    rintro e w1 ⟨rfl, hw1⟩
    obtain rfl := hw1.symm
    clear hw1
    go_wp2
    go_ret
    exact ⟨rfl, rfl⟩
  · rw [show hexB c = true by rw [hE]; simp; omega]
    rw [show digB c = true by unfold digB; simp; omega] at HT
    clear h1 h2 h3 h4 a hE
    go_enter Tryz.func115, Tryz.ntmps115
    go_wp2_with fail
    refine (HT.out w).mono ?_
    rintro e w1 ⟨rfl, hw1⟩
    obtain rfl := hw1.symm
    clear hw1
    go_wp2
    go_ret
    exact ⟨rfl, rfl⟩
  · rw [show hexB c = false by rw [hE]; simp; omega]
    rw [decide_eq_false (by omega)] at h1 h3
    rw [show digB c = false by unfold digB; simp; omega] at HT
    clear h2 h4 a hE
    go_enter Tryz.func115, Tryz.ntmps115
    go_wp2_with fail
    refine (HT.out w).mono ?_
    rintro e w1 ⟨rfl, hw1⟩
    obtain rfl := hw1.symm
    clear hw1
    go_wp2
    go_ret
    exact ⟨rfl, rfl⟩
  · rw [show hexB c = true by rw [hE]; simp; omega]
    rw [decide_eq_false (by omega)] at h1
    rw [decide_eq_true (by omega)] at h3 h4
    rw [show digB c = false by unfold digB; simp; omega] at HT
    clear h2 a hE
    go_enter Tryz.func115, Tryz.ntmps115
    go_wp2_with fail
    refine (HT.out w).mono ?_
    rintro e w1 ⟨rfl, hw1⟩
    obtain rfl := hw1.symm
    clear hw1
    go_wp2
    go_ret
    exact ⟨rfl, rfl⟩
  · rw [show hexB c = false by rw [hE]; simp; omega]
    rw [decide_eq_false (by omega)] at h1
    rw [decide_eq_true (by omega)] at h3
    rw [decide_eq_false (by omega)] at h4
    rw [show digB c = false by unfold digB; simp; omega] at HT
    clear h2 a hE
    go_enter Tryz.func115, Tryz.ntmps115
    go_wp2_with fail
    refine (HT.out w).mono ?_
    rintro e w1 ⟨rfl, hw1⟩
    obtain rfl := hw1.symm
    clear hw1
    go_wp2
    go_ret
    exact ⟨rfl, rfl⟩
  · rw [show hexB c = true by rw [hE]; simp; omega]
    rw [decide_eq_true (by omega)] at h1 h2
    rw [show digB c = false by unfold digB; simp; omega] at HT
    clear h3 h4 a hE
    go_enter Tryz.func115, Tryz.ntmps115
    go_wp2_with fail
    refine (HT.out w).mono ?_
    rintro e w1 ⟨rfl, hw1⟩
    obtain rfl := hw1.symm
    clear hw1
    go_wp2
    go_ret
    exact ⟨rfl, rfl⟩
  · rw [show hexB c = false by rw [hE]; simp; omega]
    rw [decide_eq_true (by omega)] at h1 h3
    rw [decide_eq_false (by omega)] at h2 h4
    rw [show digB c = false by unfold digB; simp; omega] at HT
    clear a hE
    go_enter Tryz.func115, Tryz.ntmps115
    go_wp2_with fail
    refine (HT.out w).mono ?_
    rintro e w1 ⟨rfl, hw1⟩
    obtain rfl := hw1.symm
    clear hw1
    go_wp2
    go_ret
    exact ⟨rfl, rfl⟩
theorem pmark_any (c : UInt8) (w : World) : Calls Tryz.prog 96 #[.string ⟨#[45, 46, 95, 126, 33, 36, 38, 39, 40, 41, 42, 43, 44, 59, 61, 58, 64, 47]⟩, B c] w fun e w' => e = .returned (.int .i64 (Lib.indexByte pmarkL c)) ∧ w' = w := by
  have h := Any.strings_IndexByte Tryz.lays137 ⟨#[45, 46, 95, 126, 33, 36, 38, 39, 40, 41, 42, 43, 44, 59, 61, 58, 64, 47]⟩ (c.toNat : Int) w
  have e : (c.toNat : Int).toNat.toUInt8 = c := by simp
  rw [e] at h
  exact h
set_option maxRecDepth 100000 in
set_option maxHeartbeats 1000000 in
theorem inpath_any (c : UInt8) (w : World) : Calls Tryz.prog 60 #[B c] w fun e w' => e = .returned (.bool (pathB c)) ∧ w' = w := by
  have h1 := B_geq 5 c 65
  have h2 := B_leq 5 c 90
  have h3 := B_geq 5 c 97
  have h4 := B_leq 5 c 122
  have HT := Lib.hid (fun w => inten_any c w)
  have hE := path_eq c
  rw [Lib.contains_iff_indexByte] at hE
  obtain ⟨j, hj⟩ : ∃ j, j = Lib.indexByte pmarkL c := ⟨_, rfl⟩
  have hmk := pmark_any c
  rw [← hj] at hE hmk
  have HM := Lib.hid hmk
  clear hmk hj
  rcases (by omega : c.toNat < 48 ∨ (48 ≤ c.toNat ∧ c.toNat ≤ 57) ∨ (57 < c.toNat ∧ c.toNat < 65) ∨ (65 ≤ c.toNat ∧ c.toNat ≤ 90) ∨ (90 < c.toNat ∧ c.toNat < 97) ∨ (97 ≤ c.toNat ∧ c.toNat ≤ 122) ∨ 122 < c.toNat) with a | a | a | a | a | a | a
  · rw [show pathB c = decide (0 ≤ j) by rw [hE]; simp; omega]
    rw [decide_eq_false (by omega)] at h1 h3
    rw [show digB c = false by unfold digB; simp; omega] at HT
    clear h2 h4 a hE
    go_enter Tryz.func60, Tryz.ntmps60
    go_wp2_with fail
    refine (HT.out w).mono ?_
    rintro e w1 ⟨rfl, hw1⟩
    obtain rfl := hw1.symm
    clear hw1
    go_wp2_with fail
    refine (HM.out w).mono ?_
    rintro e w1 ⟨rfl, hw1⟩
    obtain rfl := hw1.symm
    clear hw1
    go_wp2
    go_ret
    exact ⟨rfl, rfl⟩
  · rw [show pathB c = true by rw [hE]; simp; omega]
    rw [decide_eq_false (by omega)] at h1 h3
    rw [show digB c = true by unfold digB; simp; omega] at HT
    clear h2 h4 a hE HM
    go_enter Tryz.func60, Tryz.ntmps60
    go_wp2_with fail
    refine (HT.out w).mono ?_
    rintro e w1 ⟨rfl, hw1⟩
    obtain rfl := hw1.symm
    clear hw1
    go_wp2
    go_ret
    exact ⟨rfl, rfl⟩
  · rw [show pathB c = decide (0 ≤ j) by rw [hE]; simp; omega]
    rw [decide_eq_false (by omega)] at h1 h3
    rw [show digB c = false by unfold digB; simp; omega] at HT
    clear h2 h4 a hE
    go_enter Tryz.func60, Tryz.ntmps60
    go_wp2_with fail
    refine (HT.out w).mono ?_
    rintro e w1 ⟨rfl, hw1⟩
    obtain rfl := hw1.symm
    clear hw1
    go_wp2_with fail
    refine (HM.out w).mono ?_
    rintro e w1 ⟨rfl, hw1⟩
    obtain rfl := hw1.symm
    clear hw1
    go_wp2
    go_ret
    exact ⟨rfl, rfl⟩
  · rw [show pathB c = true by rw [hE]; simp; omega]
    rw [decide_eq_true (by omega)] at h1 h2
    clear h3 h4 a hE HM HT
    go_enter Tryz.func60, Tryz.ntmps60
    go_wp2
    go_ret
    exact ⟨rfl, rfl⟩
  · rw [show pathB c = decide (0 ≤ j) by rw [hE]; simp; omega]
    rw [decide_eq_true (by omega)] at h1
    rw [decide_eq_false (by omega)] at h2 h3
    rw [show digB c = false by unfold digB; simp; omega] at HT
    clear h4 a hE
    go_enter Tryz.func60, Tryz.ntmps60
    go_wp2_with fail
    refine (HT.out w).mono ?_
    rintro e w1 ⟨rfl, hw1⟩
    obtain rfl := hw1.symm
    clear hw1
    go_wp2_with fail
    refine (HM.out w).mono ?_
    rintro e w1 ⟨rfl, hw1⟩
    obtain rfl := hw1.symm
    clear hw1
    go_wp2
    go_ret
    exact ⟨rfl, rfl⟩
  · rw [show pathB c = true by rw [hE]; simp; omega]
    rw [decide_eq_true (by omega)] at h1 h3 h4
    rw [decide_eq_false (by omega)] at h2
    clear a hE HM HT
    go_enter Tryz.func60, Tryz.ntmps60
    go_wp2
    go_ret
    exact ⟨rfl, rfl⟩
  · rw [show pathB c = decide (0 ≤ j) by rw [hE]; simp; omega]
    rw [decide_eq_true (by omega)] at h1 h3
    rw [decide_eq_false (by omega)] at h2 h4
    rw [show digB c = false by unfold digB; simp; omega] at HT
    clear a hE
    go_enter Tryz.func60, Tryz.ntmps60
    go_wp2_with fail
    refine (HT.out w).mono ?_
    rintro e w1 ⟨rfl, hw1⟩
    obtain rfl := hw1.symm
    clear hw1
    go_wp2_with fail
    refine (HM.out w).mono ?_
    rintro e w1 ⟨rfl, hw1⟩
    obtain rfl := hw1.symm
    clear hw1
    go_wp2
    go_ret
    exact ⟨rfl, rfl⟩
set_option maxRecDepth 100000 in
set_option maxHeartbeats 1000000 in
theorem inquery_any (c : UInt8) (w : World) : Calls Tryz.prog 61 #[B c] w fun e w' => e = .returned (.bool (queryB c)) ∧ w' = w := by
  have h1 := B_eqlN 5 c 63
  have HP := Lib.hid (fun w => inpath_any c w)
  by_cases a : c = 63
  · rw [show queryB c = true by rw [a]; rfl]
    rw [show ((c.toNat : Int) == 63) = true by rw [a]; rfl] at h1
    clear a HP
    go_enter Tryz.func61, Tryz.ntmps61
    go_wp2
    go_ret
    exact ⟨rfl, rfl⟩
  · rw [show queryB c = pathB c by unfold queryB; rw [show (c == 63) = false from beq_eq_false_iff_ne.2 a, Bool.false_or]]
    rw [show ((c.toNat : Int) == 63) = false by rw [beq_eq_false_iff_ne]; intro e; exact a (UInt8.toNat_inj.1 (by rw [show (63 : UInt8).toNat = 63 from rfl]; omega))] at h1
    clear a
    go_enter Tryz.func61, Tryz.ntmps61
    go_wp2_with fail
    refine (HP.out w).mono ?_
    rintro e w1 ⟨rfl, hw1⟩
    obtain rfl := hw1.symm
    clear hw1
    go_wp2
    go_ret
    exact ⟨rfl, rfl⟩
set_option maxRecDepth 100000 in
set_option maxHeartbeats 1000000 in
theorem escapes_any (s : List UInt8) (hs : s.length ≤ 100000) (w : World) : Calls Tryz.prog 94 #[S s] w fun e w' => e = .returned (.bool (escF s)) ∧ w' = w := by
  have hlen := run_len_S (P := Tryz.prog) Tryz.underlying9 3 s
  by_cases h2 : 2 < s.length
  · obtain ⟨c, x, y, r, rfl⟩ : ∃ c x y r, s = c :: x :: y :: r := by
      match s, h2 with
      | [], h => exact absurd h (by simp)
      | [_], h => exact absurd h (by simp)
      | [_, _], h => exact absurd h (by simp)
      | c :: x :: y :: r, _ => exact ⟨c, x, y, r, rfl⟩
    have g1 : decide ((2 : Int) < ((c :: x :: y :: r).length : Int)) = true := decide_eq_true (by omega)
    have i0 : ∀ w, (Instr.index 9 (S (c :: x :: y :: r)) (.int .i64 0)).run Tryz.prog w = .ok (B c) w := fun w => index_S (P := Tryz.prog) Tryz.underlying9 _ 0 c rfl w
    have i1 : ∀ w, (Instr.index 9 (S (c :: x :: y :: r)) (.int .i64 1)).run Tryz.prog w = .ok (B x) w := fun w => index_S (P := Tryz.prog) Tryz.underlying9 _ 1 x rfl w
    have i2 : ∀ w, (Instr.index 9 (S (c :: x :: y :: r)) (.int .i64 2)).run Tryz.prog w = .ok (B y) w := fun w => index_S (P := Tryz.prog) Tryz.underlying9 _ 2 y rfl w
    have HX := Lib.hid (fun w => insix_any x w)
    have HY := Lib.hid (fun w => insix_any y w)
    have q := B_eqlN 5 c 37
    have hE : escF (c :: x :: y :: r) = (c == 37 && hexB x && hexB y) := rfl
    rw [hE]
    clear hE h2
    generalize (c :: x :: y :: r) = s at *
    generalize s.length = L at *
    by_cases a : c = 37
    · rw [show ((c.toNat : Int) == 37) = true by rw [a]; rfl] at q
      rw [show (c == 37) = true by rw [a]; rfl, Bool.true_and]
      cases hx : hexB x with
      | true =>
        rw [hx] at HX
        rw [Bool.true_and]
        clear a hx
        go_enter Tryz.func94, Tryz.ntmps94
        go_wp2_with fail
        refine (HX.out w).mono ?_
        rintro e w1 ⟨rfl, hw1⟩
        obtain rfl := hw1.symm
        clear hw1
        go_wp2_with fail
        refine (HY.out w).mono ?_
        rintro e w1 ⟨rfl, hw1⟩
        obtain rfl := hw1.symm
        clear hw1
        go_wp2
        go_ret
        exact ⟨rfl, rfl⟩
      | false =>
        rw [hx] at HX
        rw [Bool.false_and]
        clear a hx HY
        go_enter Tryz.func94, Tryz.ntmps94
        go_wp2_with fail
        refine (HX.out w).mono ?_
        rintro e w1 ⟨rfl, hw1⟩
        obtain rfl := hw1.symm
        clear hw1
        go_wp2
        go_ret
        exact ⟨rfl, rfl⟩
    · rw [show ((c.toNat : Int) == 37) = false by rw [beq_eq_false_iff_ne]; intro e; exact a (UInt8.toNat_inj.1 (by rw [show (37 : UInt8).toNat = 37 from rfl]; omega))] at q
      rw [show (c == 37) = false from beq_eq_false_iff_ne.2 a, Bool.false_and, Bool.false_and]
      clear a HX HY
      go_enter Tryz.func94, Tryz.ntmps94
      go_wp2
      go_ret
      exact ⟨rfl, rfl⟩
  · have g1 : decide ((2 : Int) < (s.length : Int)) = false := decide_eq_false (by omega)
    have hE : escF s = false := by
      match s, h2 with
      | [], _ => rfl
      | [_], _ => rfl
      | [_, _], _ => rfl
      | c :: x :: y :: r, h => exact absurd (by simp) h
    rw [hE]
    clear hE h2
    go_enter Tryz.func94, Tryz.ntmps94
    go_wp2
    go_ret
    exact ⟨rfl, rfl⟩
set_option maxRecDepth 100000 in
set_option maxHeartbeats 1000000 in
theorem written_any {f : Nat} {p : UInt8 → Bool} (hf : ∀ c w, Calls Tryz.prog f #[B c] w fun e w' => e = .returned (.bool (p c)) ∧ w' = w) (he : ∀ args w, (callFunc f args).run Tryz.prog w = .ok (.enter f args) w)
    (s : List UInt8) (hs : s.length ≤ 100000) (w : World) : Calls Tryz.prog 59 #[S s, .func (.func f) #[] #[]] w fun e w' => e = .returned (.bool (wrF p s)) ∧ w' = w := by
  have hlenS := run_len_S (P := Tryz.prog) Tryz.underlying9 3 s
  have HF := Lib.hid hf
  obtain ⟨L, hL⟩ : ∃ L, L = s.length := ⟨_, rfl⟩
  rw [← hL] at hlenS hs
  have HL := Lib.hid hL
  clear hf hL
  go_enter Tryz.func59, Tryz.ntmps59
  go_wp2
  go_loopw [8] (fun iv wr => ∃ i : Nat, i ≤ L ∧ iv = .int .i64 (i : Int) ∧ wr = w ∧ wrF p s = wrF p (s.drop i)) (fun iv _ => L - (intOf iv).toNat)
  case atStart => exact ⟨0, by omega, rfl, rfl, rfl⟩
  case round =>
    obtain ⟨i, hi, rfl, rfl, hn⟩ := hrel
    by_cases hlt : i < L
    · obtain ⟨c, hc⟩ : ∃ c, s[i]? = some c := ⟨s[i]'(by have := HL.out; omega), List.getElem?_eq_getElem _⟩
      have hidx : ∀ w, (Instr.index 9 (S s) (.int .i64 (i : Int))).run Tryz.prog w = .ok (B c) w := fun w => index_S (P := Tryz.prog) Tryz.underlying9 s i c hc w
      have hsl : ∀ w, (Instr.slice 9 (S s) (some (.int .i64 (i : Int))) none none).run Tryz.prog w = .ok (S (s.drop i)) w := fun w => slice_drop (P := Tryz.prog) Tryz.underlying9 s i (by have := HL.out; omega) w
      have hdr : s.drop i = c :: s.drop (i + 1) := by
        rw [List.drop_eq_getElem_cons (by rw [← HL.out]; exact hlt), (List.getElem?_eq_some_iff.1 hc).2]
      have hnx : wrF p s = ((p c || escF (s.drop i)) && wrF p (s.drop (i + 1))) := by rw [hn, hdr]; rfl
      have HE := Lib.hid (fun w => escapes_any (s.drop i) (by rw [List.length_drop]; have := HL.out; omega) w)
      have HF2 := Lib.hid (HF.out c wr)
      clear hn hc hdr
      cases hb : p c with
      | true =>
        have HN : Hid (wrF p s = wrF p (s.drop (i + 1))) := Lib.hid (by rw [hnx, hb, Bool.true_or, Bool.true_and])
        have HB := Lib.hid hb
        clear hnx hb HE hsl
        go_wp2_with fail
        refine HF2.out.mono ?_
        rintro e w1 ⟨rfl, hw1⟩
        obtain rfl := hw1.symm
        rw [HB.out]
        clear hw1
        go_wp2
        exact ⟨⟨i + 1, by omega, by go_num, by trivial, HN.out⟩, by simp [intOf]; omega⟩
      | false =>
        have HB := Lib.hid hb
        cases hes : escF (s.drop i) with
        | true =>
          have HN : Hid (wrF p s = wrF p (s.drop (i + 1))) := Lib.hid (by rw [hnx, hb, hes, Bool.false_or, Bool.true_and])
          rw [hes] at HE
          clear hnx hb hes
          go_wp2_with fail
          refine HF2.out.mono ?_
          rintro e w1 ⟨rfl, hw1⟩
          obtain rfl := hw1.symm
          rw [HB.out]
          clear hw1
          go_wp2_with fail
          refine (HE.out _).mono ?_
          rintro e w1 ⟨rfl, hw1⟩
          obtain rfl := hw1.symm
          clear hw1
          go_wp2
          exact ⟨⟨i + 1, by omega, by go_num, by trivial, HN.out⟩, by simp [intOf]; omega⟩
        | false =>
          have HN : Hid (wrF p s = false) := Lib.hid (by rw [hnx, hb, hes, Bool.false_or, Bool.false_and])
          rw [hes] at HE
          clear hnx hb hes
          go_wp2_with fail
          refine HF2.out.mono ?_
          rintro e w1 ⟨rfl, hw1⟩
          obtain rfl := hw1.symm
          rw [HB.out]
          clear hw1
          go_wp2_with fail
          refine (HE.out _).mono ?_
          rintro e w1 ⟨rfl, hw1⟩
          obtain rfl := hw1.symm
          clear hw1
          go_wp2
          go_ret
          exact ⟨by rw [HN.out]; rfl, rfl⟩
    · obtain rfl : i = L := by omega
      have HN : Hid (wrF p s = true) := Lib.hid (by rw [hn, HL.out, List.drop_length]; rfl)
      clear hn
      go_wp2
      go_ret
      exact ⟨by rw [HN.out]; rfl, rfl⟩
theorem written_path (s : List UInt8) (hs : s.length ≤ 100000) (w : World) : Calls Tryz.prog 59 #[S s, .func (.func 60) #[] #[]] w fun e w' => e = .returned (.bool (wrF pathB s)) ∧ w' = w :=
  written_any inpath_any (enters_of Tryz.func60 (by kernel_rfl) rfl) s hs w
theorem written_query (s : List UInt8) (hs : s.length ≤ 100000) (w : World) : Calls Tryz.prog 59 #[S s, .func (.func 61) #[] #[]] w fun e w' => e = .returned (.bool (wrF queryB s)) ∧ w' = w :=
  written_any inquery_any (enters_of Tryz.func61 (by kernel_rfl) rfl) s hs w
set_option maxRecDepth 100000 in
set_option maxHeartbeats 1000000 in
theorem istarget_any (s : List UInt8) (hs : s.length ≤ 100000) (w : World) : Calls Tryz.prog 130 #[S s] w fun e w' => e = .returned (.bool (s.all visB && s != [])) ∧ w' = w := by
  have hlenS := run_len_S (P := Tryz.prog) Tryz.underlying9 3 s
  have hn0 : binOp .neq 9 (S s) (.string ⟨#[]⟩) = pure (.bool (s != [])) := neql_S 9 s []
  have hg0 : ∀ x y, eqGuard .neq 9 x y (S s) (.string ⟨#[]⟩) = pure () := fun x y => nguard_S 9 x y s []
  obtain ⟨L, hL⟩ : ∃ L, L = s.length := ⟨_, rfl⟩
  rw [← hL] at hlenS hs
  have HL := Lib.hid hL
  clear hL
  go_enter Tryz.func130, Tryz.ntmps130
  go_wp2
  go_loopw [6] (fun iv wr => ∃ i : Nat, i ≤ L ∧ iv = .int .i64 (i : Int) ∧ wr = w ∧ (s.take i).all visB = true) (fun iv _ => L - (intOf iv).toNat)
  case atStart => exact ⟨0, by omega, rfl, rfl, rfl⟩
  case round =>
    obtain ⟨i, hi, rfl, rfl, hn⟩ := hrel
    by_cases hlt : i < L
    · obtain ⟨c, hc⟩ : ∃ c, s[i]? = some c := ⟨s[i]'(by have := HL.out; omega), List.getElem?_eq_getElem _⟩
      have hidx : ∀ w, (Instr.index 9 (S s) (.int .i64 (i : Int))).run Tryz.prog w = .ok (B c) w := fun w => index_S (P := Tryz.prog) Tryz.underlying9 s i c hc w
      have hnx := all_take_next hc hn
      have q1 := B_lss 5 c 33
      have q2 := B_gtr 5 c 126
      clear hn hc
      rcases (by omega : c.toNat < 33 ∨ (33 ≤ c.toNat ∧ c.toNat ≤ 126) ∨ 126 < c.toNat) with a | a | a
      · have HN : Hid (s.all visB = false) := Lib.hid (by rw [show visB c = false by unfold visB; simp; omega] at hnx; exact all_of_take hnx)
        rw [decide_eq_true (by omega)] at q1
        clear hnx a q2
        go_wp2
        go_ret
        exact ⟨by rw [HN.out]; rfl, rfl⟩
      · have HN : Hid ((s.take (i + 1)).all visB = true) := Lib.hid (by rw [hnx]; unfold visB; simp; omega)
        rw [decide_eq_false (by omega)] at q1 q2
        clear hnx a
        go_wp2
        exact ⟨⟨i + 1, by omega, by go_num, by trivial, HN.out⟩, by simp [intOf]; omega⟩
      · have HN : Hid (s.all visB = false) := Lib.hid (by rw [show visB c = false by unfold visB; simp; omega] at hnx; exact all_of_take hnx)
        rw [decide_eq_false (by omega)] at q1
        rw [decide_eq_true (by omega)] at q2
        clear hnx a
        go_wp2
        go_ret
        exact ⟨by rw [HN.out]; rfl, rfl⟩
    · obtain rfl : i = L := by omega
      have HN : Hid (s.all visB = true) := Lib.hid (by rw [HL.out, List.take_length] at hn; exact hn)
      clear hn
      go_wp2
      go_ret
      exact ⟨by rw [HN.out, Bool.true_and]; rfl, rfl⟩
set_option maxRecDepth 100000 in
set_option maxHeartbeats 1000000 in
theorem version_any (s : List UInt8) (w : World) : Calls Tryz.prog 129 #[S s] w fun e w' => e = .returned (.int .i64 (verN s : Int)) ∧ w' = w := by
  have h1 : binOp .eql 9 (S s) (.string ⟨#[72, 84, 84, 80, 47, 49, 46, 48]⟩) = pure (.bool (s == hver0)) := eql_S 9 s hver0
  have k1 : ∀ x y, eqGuard .eql 9 x y (S s) (.string ⟨#[72, 84, 84, 80, 47, 49, 46, 48]⟩) = pure () := fun x y => guard_S 9 x y s hver0
  have h2 : binOp .eql 9 (S s) (.string ⟨#[72, 84, 84, 80, 47, 49, 46, 49]⟩) = pure (.bool (s == hver1)) := eql_S 9 s hver1
  have k2 : ∀ x y, eqGuard .eql 9 x y (S s) (.string ⟨#[72, 84, 84, 80, 47, 49, 46, 49]⟩) = pure () := fun x y => guard_S 9 x y s hver1
  have hE : verN s = if s = hver0 then 10 else if s = hver1 then 11 else 0 := rfl
  by_cases a : s = hver0
  · rw [show (s == hver0) = true from beq_iff_eq.2 a] at h1
    rw [hE, if_pos a]
    clear hE a h2 k2
    go_enter Tryz.func129, Tryz.ntmps129
    go_wp2
    go_ret
    exact ⟨rfl, rfl⟩
  · rw [show (s == hver0) = false from beq_eq_false_iff_ne.2 a] at h1
    rw [hE, if_neg a]
    by_cases b : s = hver1
    · rw [show (s == hver1) = true from beq_iff_eq.2 b] at h2
      rw [if_pos b]
      clear hE a b
      go_enter Tryz.func129, Tryz.ntmps129
      go_wp2
      go_ret
      exact ⟨rfl, rfl⟩
    · rw [show (s == hver1) = false from beq_eq_false_iff_ne.2 b] at h2
      rw [if_neg b]
      clear hE a b
      go_enter Tryz.func129, Tryz.ntmps129
      go_wp2
      go_ret
      exact ⟨rfl, rfl⟩
theorem B_sub48 (t : TypeId) (x : UInt8) (h : 48 ≤ x.toNat) : binOp .sub t (B x) (.int .u8 48) = pure (B (x - 48)) := by
  have := x.toNat_lt
  have e : (x - 48).toNat = x.toNat - 48 := by rw [UInt8.toNat_sub_of_le _ _ (by rw [UInt8.le_iff_toNat_le]; exact h)]; rfl
  have hw : IntKind.u8.wrap ((x.toNat : Int) - 48) = ((x.toNat - 48 : Nat) : Int) := by rw [IntKind.wrap_u8]; omega
  simp only [B, e]
  show pure (Value.int .u8 (IntKind.u8.wrap ((x.toNat : Int) - 48))) = _
  rw [hw]
end Go.Proofs.YtplajlccnnbifaaGreatDoor
/- The landed package of lines does what is asked of it: Parse, Target, Status. (mklz.py writes it.) -/
namespace Go.Proofs.YtplajlccnnbifaaGreatDoor
open Go.RowKit
attribute [local go_sem] store_one S_match S_store eguard_BN nguard_BN
theorem results_t4 {fn : Func} {t u v x : Tmp} (h : fn.results = #[.tmp t, .tmp u, .tmp v, .tmp x]) (tmps : Array Value) (P : Program) (w : World) :
    (results fn tmps).run P w = .ok (.tuple #[tmps.getD t undef, tmps.getD u undef, tmps.getD v undef, tmps.getD x undef]) w := by
  simp [results, h, go_sem]

set_option maxRecDepth 100000 in
set_option maxHeartbeats 1000000 in
theorem lparse_any (s : List UInt8) (w : World) (hs : s.length ≤ 100000) : Calls Tryz.prog 111 #[S s] w fun e w' => e = .returned (lineV (lineF s)) ∧ Below w.heap.size w w' := by
  have lit : S [32] = .string ⟨#[32]⟩ := rfl
  have lit0 : S [] = .string ⟨#[]⟩ := rfl

  have fin : ∀ (m r t l : List UInt8) (b1 b2 : Bool), m.length ≤ 100000 → t.length ≤ 100000 →
      (∀ w, Calls Tryz.prog 58 #[S s, .string ⟨#[32]⟩] w fun e w' => e = .returned (.tuple #[S m, S r, .bool b1]) ∧ Drawn w w') →
      (∀ w, Calls Tryz.prog 58 #[S r, .string ⟨#[32]⟩] w fun e w' => e = .returned (.tuple #[S t, S l, .bool b2]) ∧ Drawn w w') →
      lineF s = (if (tokF m && (t.all visB && t != []) && verN l != 0) = true then (m, t, verN l, true) else ([], [], 0, false)) →
      Calls Tryz.prog 111 #[S s] w fun e w' => e = .returned (lineV (lineF s)) ∧ Below w.heap.size w w' := by
    intro m r t l b1 b2 hm ht h1 h2 hE
    rw [hE]
    have H1 := Lib.hid h1
    have H2 := Lib.hid h2
    have H3 := Lib.hid (fun w => version_any l w)
    have H4 := Lib.hid (fun w => token15_any m hm w)
    have H5 := Lib.hid (fun w => istarget_any t ht w)
    obtain ⟨n, hn⟩ : ∃ n, n = verN l := ⟨_, rfl⟩
    rw [← hn] at H3
    rw [← hn]
    clear h1 h2 hE hs lit lit0 hm ht hn
    cases a : tokF m with
    | false =>
      rw [a] at H4
      rw [Bool.false_and, Bool.false_and, if_neg Bool.false_ne_true]
      clear a H5
      go_enter Tryz.func111, Tryz.ntmps111
      go_wp2_with fail
      refine (H1.out w).mono ?_
      rintro e W1 ⟨rfl, hd1⟩
      have D1 := Lib.hid hd1
      clear hd1 H1
      go_wp2_with fail
      refine (H2.out W1).mono ?_
      rintro e W2 ⟨rfl, hd2⟩
      have D2 := Lib.hid (D1.out.trans hd2)
      clear hd2 H2 D1
      go_wp2_with fail
      refine (H3.out W2).mono ?_
      rintro e w1 ⟨rfl, hw1⟩
      obtain rfl := hw1.symm
      clear hw1
      go_wp2_with fail
      refine (H4.out W2).mono ?_
      rintro e w1 ⟨rfl, hw1⟩
      obtain rfl := hw1.symm
      clear hw1
      go_wp2
      refine bodyPost_ret (results_t4 rfl _ _ _) rfl ?_
      exact ⟨rfl, D2.out.below⟩
    | true =>
      rw [a] at H4
      rw [Bool.true_and]
      cases b : (t.all visB && t != []) with
      | false =>
        rw [b] at H5
        rw [Bool.false_and, if_neg Bool.false_ne_true]
        clear a b
        go_enter Tryz.func111, Tryz.ntmps111
        go_wp2_with fail
        refine (H1.out w).mono ?_
        rintro e W1 ⟨rfl, hd1⟩
        have D1 := Lib.hid hd1
        clear hd1 H1
        go_wp2_with fail
        refine (H2.out W1).mono ?_
        rintro e W2 ⟨rfl, hd2⟩
        have D2 := Lib.hid (D1.out.trans hd2)
        clear hd2 H2 D1
        go_wp2_with fail
        refine (H3.out W2).mono ?_
        rintro e w1 ⟨rfl, hw1⟩
        obtain rfl := hw1.symm
        clear hw1
        go_wp2_with fail
        refine (H4.out W2).mono ?_
        rintro e w1 ⟨rfl, hw1⟩
        obtain rfl := hw1.symm
        clear hw1
        go_wp2_with fail
        refine (H5.out W2).mono ?_
        rintro e w1 ⟨rfl, hw1⟩
        obtain rfl := hw1.symm
        clear hw1
        go_wp2
        refine bodyPost_ret (results_t4 rfl _ _ _) rfl ?_
        exact ⟨rfl, D2.out.below⟩
      | true =>
        rw [b] at H5
        rw [Bool.true_and]
        clear a b
        by_cases c : n = 0
        · have q : ((n : Int) == 0) = true := by rw [beq_iff_eq]; omega
          rw [show (n != 0) = false by rw [c]; rfl, if_neg Bool.false_ne_true]
          clear c
          go_enter Tryz.func111, Tryz.ntmps111
          go_wp2_with fail
          refine (H1.out w).mono ?_
          rintro e W1 ⟨rfl, hd1⟩
          have D1 := Lib.hid hd1
          clear hd1 H1
          go_wp2_with fail
          refine (H2.out W1).mono ?_
          rintro e W2 ⟨rfl, hd2⟩
          have D2 := Lib.hid (D1.out.trans hd2)
          clear hd2 H2 D1
          go_wp2_with fail
          refine (H3.out W2).mono ?_
          rintro e w1 ⟨rfl, hw1⟩
          obtain rfl := hw1.symm
          clear hw1
          go_wp2_with fail
          refine (H4.out W2).mono ?_
          rintro e w1 ⟨rfl, hw1⟩
          obtain rfl := hw1.symm
          clear hw1
          go_wp2_with fail
          refine (H5.out W2).mono ?_
          rintro e w1 ⟨rfl, hw1⟩
          obtain rfl := hw1.symm
          clear hw1
          go_wp2
          refine bodyPost_ret (results_t4 rfl _ _ _) rfl ?_
          exact ⟨rfl, D2.out.below⟩
        · have q : ((n : Int) == 0) = false := by rw [beq_eq_false_iff_ne]; omega
          rw [show (n != 0) = true from bne_iff_ne.2 c, if_pos rfl]
          clear c
          go_enter Tryz.func111, Tryz.ntmps111
          go_wp2_with fail
          refine (H1.out w).mono ?_
          rintro e W1 ⟨rfl, hd1⟩
          have D1 := Lib.hid hd1
          clear hd1 H1
          go_wp2_with fail
          refine (H2.out W1).mono ?_
          rintro e W2 ⟨rfl, hd2⟩
          have D2 := Lib.hid (D1.out.trans hd2)
          clear hd2 H2 D1
          go_wp2_with fail
          refine (H3.out W2).mono ?_
          rintro e w1 ⟨rfl, hw1⟩
          obtain rfl := hw1.symm
          clear hw1
          go_wp2_with fail
          refine (H4.out W2).mono ?_
          rintro e w1 ⟨rfl, hw1⟩
          obtain rfl := hw1.symm
          clear hw1
          go_wp2_with fail
          refine (H5.out W2).mono ?_
          rintro e w1 ⟨rfl, hw1⟩
          obtain rfl := hw1.symm
          clear hw1
          go_wp2
          refine bodyPost_ret (results_t4 rfl _ _ _) rfl ?_
          exact ⟨rfl, D2.out.below⟩
  rcases cut_cases 32 s with ⟨m, r, rfl, hab⟩ | hm
  · rw [List.length_append, List.length_cons] at hs
    rcases cut_cases 32 r with ⟨t, l, rfl, hab2⟩ | hm2
    · rw [List.length_append, List.length_cons] at hs
      exact fin m (t ++ 32 :: l) t l true true (by omega) (by omega) (fun w => cut_hit 32 m _ hab (by rw [List.length_append, List.length_cons]; omega) w) (fun w => cut_hit 32 t l hab2 (by omega) w) (line_two hab hab2)
    · exact fin m r r [] true false (by omega) (by omega) (fun w => cut_hit 32 m _ hab (by omega) w) (fun w => cut_miss 32 r hm2 w) (by
        rw [line_miss2 hab hm2, show verN [] = 0 by decide, show ((0 : Nat) != 0) = false from rfl, Bool.and_false, if_neg Bool.false_ne_true])
  · exact fin s [] [] [] false false hs (by simp) (fun w => cut_miss 32 s hm w) (fun w => cut_miss 32 [] (by simp) w) (by
      rw [line_miss hm, show (([] : List UInt8).all visB && ([] : List UInt8) != []) = false from rfl, Bool.and_false, Bool.false_and, if_neg Bool.false_ne_true])
set_option maxRecDepth 100000 in
set_option maxHeartbeats 1000000 in
theorem ltarget_any (s : List UInt8) (w : World) (hs : s.length ≤ 100000) : Calls Tryz.prog 34 #[S s] w fun e w' => e = .returned (targetV (targetF s)) ∧ Below w.heap.size w w' := by
  have hlen := run_len_S (P := Tryz.prog) Tryz.underlying9 3 s
  by_cases h5 : 512 < s.length
  · have g1 : decide ((512 : Int) < (s.length : Int)) = true := decide_eq_true (by omega)
    rw [target_long h5]
    clear h5 hs
    go_enter Tryz.func34, Tryz.ntmps34
    go_wp2
    go_ret3
    exact ⟨rfl, Below.refl _ _⟩
  have g1 : decide ((512 : Int) < (s.length : Int)) = false := decide_eq_false (by omega)
  have hpf : ∀ w, Calls Tryz.prog 26 #[S s, .string ⟨#[47]⟩] w fun e w' => e = .returned (.bool (Lib.hasPrefix s [47])) ∧ w' = w := fun w => Any.strings_HasPrefix Tryz.lays99 ⟨s.toArray⟩ ⟨#[47]⟩ w
  have hpe : Lib.hasPrefix s [47] = (s[0]? == some 47) := by
    cases s with
    | nil => rfl
    | cons c r =>
      have e : Lib.hasPrefix (c :: r) [47] = ((47 : UInt8) == c) := by
        show ((47 : UInt8) == c && true) = _
        rw [Bool.and_true]
      rw [e, show ((c :: r)[0]? == some 47) = (c == 47) from rfl, Bool.eq_iff_iff, beq_iff_eq, beq_iff_eq]
      exact eq_comm
  rw [hpe] at hpf
  have HF := Lib.hid hpf
  clear hpf hpe
  by_cases h0 : s[0]? ≠ some 47

  · rw [target_bad h0]
    rw [show (s[0]? == some 47) = false from beq_eq_false_iff_ne.2 h0] at HF
    clear h5 h0 hs
    go_enter Tryz.func34, Tryz.ntmps34
    go_wp2_with fail
    refine (HF.out w).mono ?_
    rintro e w1 ⟨rfl, hw1⟩
    obtain rfl := hw1.symm
    clear hw1
    go_wp2
    go_ret3
    exact ⟨rfl, Below.refl _ _⟩
  replace h0 := Classical.not_not.1 h0
  rw [show (s[0]? == some 47) = true from beq_iff_eq.2 h0] at HF
  have fin : ∀ (a b : List UInt8) (b1 : Bool), a.length ≤ 100000 → b.length ≤ 100000 →
      (∀ w, Calls Tryz.prog 58 #[S s, .string ⟨#[63]⟩] w fun e w' => e = .returned (.tuple #[S a, S b, .bool b1]) ∧ Drawn w w') →
      targetF s = (if (wrF pathB a && wrF queryB b) = true then (a, b, true) else ([], [], false)) →
      Calls Tryz.prog 34 #[S s] w fun e w' => e = .returned (targetV (targetF s)) ∧ Below w.heap.size w w' := by
    intro a b b1 ha hb h1 hE
    rw [hE]
    have H1 := Lib.hid h1
    have H2 := Lib.hid (fun w => written_path a ha w)
    have H3 := Lib.hid (fun w => written_query b hb w)
    clear h1 hE hs h5 h0 ha hb
    cases x : wrF pathB a with
    | false =>
      rw [x] at H2
      rw [Bool.false_and, if_neg Bool.false_ne_true]
      clear x H3
      go_enter Tryz.func34, Tryz.ntmps34
      go_wp2_with fail
      refine (HF.out w).mono ?_
      rintro e w1 ⟨rfl, hw1⟩
      obtain rfl := hw1.symm
      clear hw1
      go_wp2_with fail
      refine (H1.out w).mono ?_
      rintro e W1 ⟨rfl, hd1⟩
      have D1 := Lib.hid hd1
      clear hd1 H1
      go_wp2_with fail
      refine (H2.out W1).mono ?_
      rintro e w1 ⟨rfl, hw1⟩
      obtain rfl := hw1.symm
      clear hw1
      go_wp2
      go_ret3
      exact ⟨rfl, D1.out.below⟩
    | true =>
      rw [x] at H2
      rw [Bool.true_and]
      cases y : wrF queryB b with
      | false =>
        rw [y] at H3
        rw [if_neg Bool.false_ne_true]
        clear x y
        go_enter Tryz.func34, Tryz.ntmps34
        go_wp2_with fail
        refine (HF.out w).mono ?_
        rintro e w1 ⟨rfl, hw1⟩
        obtain rfl := hw1.symm
        clear hw1
        go_wp2_with fail
        refine (H1.out w).mono ?_
        rintro e W1 ⟨rfl, hd1⟩
        have D1 := Lib.hid hd1
        clear hd1 H1
        go_wp2_with fail
        refine (H2.out W1).mono ?_
        rintro e w1 ⟨rfl, hw1⟩
        obtain rfl := hw1.symm
        clear hw1
        go_wp2_with fail
        refine (H3.out W1).mono ?_
        rintro e w1 ⟨rfl, hw1⟩
        obtain rfl := hw1.symm
        clear hw1
        go_wp2
        go_ret3
        exact ⟨rfl, D1.out.below⟩
      | true =>
        rw [y] at H3
        rw [if_pos rfl]
        clear x y
        go_enter Tryz.func34, Tryz.ntmps34
        go_wp2_with fail
        refine (HF.out w).mono ?_
        rintro e w1 ⟨rfl, hw1⟩
        obtain rfl := hw1.symm
        clear hw1
        go_wp2_with fail
        refine (H1.out w).mono ?_
        rintro e W1 ⟨rfl, hd1⟩
        have D1 := Lib.hid hd1
        clear hd1 H1
        go_wp2_with fail
        refine (H2.out W1).mono ?_
        rintro e w1 ⟨rfl, hw1⟩
        obtain rfl := hw1.symm
        clear hw1
        go_wp2_with fail
        refine (H3.out W1).mono ?_
        rintro e w1 ⟨rfl, hw1⟩
        obtain rfl := hw1.symm
        clear hw1
        go_wp2
        go_ret3
        exact ⟨rfl, D1.out.below⟩
  rcases cut_cases 63 s with ⟨a, b, rfl, hab⟩ | hm
  · have hl := hs
    rw [List.length_append, List.length_cons] at hl
    exact fin a b true (by omega) (by omega) (fun w => cut_hit 63 a b hab (by omega) w) (targ_hit h0 (by omega) hab)
  · exact fin s [] false hs (by simp) (fun w => cut_miss 63 s hm w) (targ_miss h0 (by omega) hm)
end Go.Proofs.YtplajlccnnbifaaGreatDoor
/- The landed field.Get walked; the landed request's count, and what may be of hosts, encodings and lengths. -/
namespace Go.Proofs.YtplajlccnnbifaaGreatDoor
open Go.RowKit Go.Shelf
attribute [local go_sem] store_one S_match S_store eguard_BN nguard_BN

theorem many_snoc (t : List UInt8) (f : List UInt8 × List UInt8) : ∀ l, manyF t (l ++ [f]) = manyF t l + (alikeF f.1 t).toNat
  | [] => by simp [manyF]
  | g :: l => by rw [List.cons_append, many_cons, many_cons, many_snoc t f l, Nat.add_assoc]
theorem first_snoc (t : List UInt8) (f : List UInt8 × List UInt8) : ∀ l, firstF t (l ++ [f]) = if alikeF f.1 t = true then (if manyF t l = 0 then f.2 else firstF t l) else firstF t l
  | [] => by simp [firstF, manyF]
  | g :: l => by
    rw [List.cons_append, firstF, firstF, many_cons, first_snoc t f l]
    cases hg : alikeF g.1 t
    · simp
    · simp
theorem many_le (t : List UInt8) : ∀ l, manyF t l ≤ l.length
  | [] => Nat.le_refl _
  | g :: l => by
    have := many_le t l
    have h2 : (alikeF g.1 t).toNat ≤ 1 := Bool.toNat_le _
    rw [many_cons, List.length_cons]; omega
set_option maxRecDepth 100000 in
set_option maxHeartbeats 1000000 in
theorem get_any (V : Value) (fs : List (List UInt8 × List UInt8)) (b : Nat) (t : List UInt8) (ht : t.length ≤ 100000) (hfew : fs.length ≤ 1000000) (hlong : ∀ f ∈ fs, f.1.length ≤ 100000) (w : World) (hV : FldsAt w V fs b) :
    Calls Tryz.prog 78 #[V, S t] w fun e w' => e = .returned (.tuple #[S (firstF t fs), .int .i64 (manyF t fs : Int)]) ∧ Below w.heap.size w w' := by
  have hlen := hV.len 3
  obtain ⟨n, hn⟩ : ∃ n, n = fs.length := ⟨_, rfl⟩
  rw [← hn] at hlen hfew
  have HV := Lib.hid (And.intro hV (And.intro ht (And.intro hlong hn)))
  clear hV ht hlong hn
  go_enter Tryz.func78, Tryz.ntmps78
  go_wp2
  go_loopw [4, 5, 10] (fun vv cv iv wr => ∃ k : Nat, k ≤ n ∧ vv = S (firstF t (fs.take k)) ∧ cv = .int .i64 (manyF t (fs.take k) : Int) ∧ iv = .int .i64 (k : Int) ∧ Below w.heap.size w wr) (fun _ _ iv _ => n - (intOf iv).toNat)
  case atStart => exact ⟨0, Nat.zero_le _, rfl, rfl, rfl, Below.refl _ _⟩
  case round =>
    obtain ⟨k, hk, rfl, rfl, rfl, hB⟩ := hrel
    by_cases hlt : k < n
    · have hVr := HV.out.1.below hB
      have hkl : k < fs.length := by rw [← HV.out.2.2.2]; exact hlt
      obtain ⟨⟨nk, vk⟩, hf⟩ : ∃ f, fs[k]? = some f := ⟨fs[k], List.getElem?_eq_getElem hkl⟩
      have hix := hVr.index k hkl
      obtain ⟨c0, c1⟩ := hVr.cell k _ hf
      dsimp only at c0 c1
      have HA := Lib.hid fun W => alike16_any nk t (HV.out.2.2.1 _ (List.mem_of_getElem? hf)) HV.out.2.1 W
      have hfl := many_le t (fs.take k)
      rw [List.length_take] at hfl
      have HB := Lib.hid hB
      have HG : Hid (firstF t (fs.take (k + 1)) = (if alikeF nk t = true then (if manyF t (fs.take k) = 0 then vk else firstF t (fs.take k)) else firstF t (fs.take k)) ∧ manyF t (fs.take (k + 1)) = manyF t (fs.take k) + (alikeF nk t).toNat) := Lib.hid (by
        rw [List.take_add_one, hf]
        exact ⟨first_snoc t (nk, vk) _, many_snoc t (nk, vk) _⟩)
      clear hVr hB hf
      generalize k * 2 = q at *
      obtain ⟨W2, hW2⟩ : ∃ W2, W2 = wr.alloc (.cells #[S nk, S vk] 47) := ⟨_, rfl⟩
      obtain ⟨g, hg⟩ : ∃ g, g = wr.heap.size := ⟨_, rfl⟩
      have hr2 : Row W2 g #[S nk, S vk] 47 := by rw [hW2, hg]; exact row_new wr _ _
      have hB2 : Below w.heap.size w W2 := by rw [hW2]; exact HB.out.alloc HB.out.size _
      have H2 := Lib.hid (And.intro hr2 hB2)
      clear hr2 hB2
      obtain ⟨fv, hfv⟩ : ∃ fv, fv = firstF t (fs.take k) := ⟨_, rfl⟩
      obtain ⟨fc, hfc⟩ : ∃ fc, fc = manyF t (fs.take k) := ⟨_, rfl⟩
      rw [← hfc] at hfl HG ⊢
      rw [← hfv] at HG ⊢
      clear hfv hfc
      have hw1 : IntKind.i64.wrap ((fc : Int) + 1) = (fc : Int) + 1 := by rw [IntKind.wrap_i64]; omega
      have hw2 : IntKind.i64.wrap ((k : Int) + 1) = (k : Int) + 1 := by rw [IntKind.wrap_i64]; omega
      clear hfl hkl
      go_wp2_with fail
      rw [← hg, ← hW2]
      clear hg hW2 c0 c1 hix
      refine (HA.out W2).mono ?_
      rintro e W3 ⟨rfl, hD⟩
      have hr3 := H2.out.1.below hD.below H2.out.1.lt
      have c3 := cell_of_row W3 _ 1 _ 47 (0, 0) hr3
      have H3 : Hid (Below w.heap.size w W3) := Lib.hid (H2.out.2.trans (hD.below.mono H2.out.2.size))
      clear hD hr3 H2
      cases hb : alikeF nk t with
      | true =>
        have HG2 : Hid (firstF t (fs.take (k + 1)) = (if fc = 0 then vk else fv) ∧ manyF t (fs.take (k + 1)) = fc + 1) := Lib.hid (by have := HG.out; rw [hb, if_pos rfl] at this; exact this)
        clear hb
        by_cases h0 : fc = 0
        · have hz : ((fc : Int) == 0) = true := by rw [beq_iff_eq]; omega
          have hz' : (fc == 0) = true := by rw [beq_iff_eq]; exact h0
          have HG3 : Hid (firstF t (fs.take (k + 1)) = vk ∧ manyF t (fs.take (k + 1)) = fc + 1) := Lib.hid (by have := HG2.out; rw [if_pos h0] at this; exact this)
          clear h0
          go_wp2
          exact ⟨⟨k + 1, by omega, by rw [HG3.out.1], by rw [HG3.out.2]; go_num, by go_num, H3.out⟩, by simp [intOf]; omega⟩
        · have hz : ((fc : Int) == 0) = false := by rw [beq_eq_false_iff_ne]; omega
          have hz' : (fc == 0) = false := by rw [beq_eq_false_iff_ne]; exact h0
          have hz2 : decide (fc = 0) = false := decide_eq_false h0
          have HG3 : Hid (firstF t (fs.take (k + 1)) = fv ∧ manyF t (fs.take (k + 1)) = fc + 1) := Lib.hid (by have := HG2.out; rw [if_neg h0] at this; exact this)
          clear h0
          go_wp2
          exact ⟨⟨k + 1, by omega, by rw [HG3.out.1], by rw [HG3.out.2]; go_num, by go_num, H3.out⟩, by simp [intOf]; omega⟩
      | false =>
        have HG2 : Hid (firstF t (fs.take (k + 1)) = fv ∧ manyF t (fs.take (k + 1)) = fc) := Lib.hid (by have := HG.out; rw [hb, if_neg Bool.false_ne_true] at this; exact this)
        clear hb
        go_wp2
        exact ⟨⟨k + 1, by omega, by rw [HG2.out.1], by rw [HG2.out.2], by go_num, H3.out⟩, by simp [intOf]; omega⟩
    · obtain rfl : k = n := by omega
      have HB : Hid (Below w.heap.size w wr ∧ fs.take k = fs) := Lib.hid ⟨hB, by rw [HV.out.2.2.2, List.take_length]⟩
      clear hB
      go_wp2
      go_ret2
      exact ⟨by rw [HB.out.2]; rfl, HB.out.1⟩
set_option maxRecDepth 100000 in
set_option maxHeartbeats 1000000 in
theorem count_any (s : List UInt8) (hs : s.length ≤ 100000) (hd : s.all dgtB = true) (w : World) : Calls Tryz.prog 79 #[S s] w fun e w' => e = .returned (.int .i64 (cntGo 0 s : Int)) ∧ w' = w := by
  have hlen := run_len_S (P := Tryz.prog) Tryz.underlying9 3 s
  obtain ⟨L, hL⟩ : ∃ L, L = s.length := ⟨_, rfl⟩
  rw [← hL] at hlen hs
  have HL := Lib.hid (And.intro hL hd)
  clear hL hd
  go_enter Tryz.func79, Tryz.ntmps79
  go_wp2
  go_loopw [3, 7] (fun nv iv wr => ∃ i : Nat, i ≤ L ∧ nv = .int .i64 (cntGo 0 (s.take i) : Int) ∧ iv = .int .i64 (i : Int) ∧ wr = w) (fun _ iv _ => L - (intOf iv).toNat)
  case atStart => exact ⟨0, Nat.zero_le _, by rw [List.take_zero, cntGo_nil]; rfl, rfl, rfl⟩
  case round =>
    obtain ⟨i, hi, rfl, rfl, hwr⟩ := hrel
    subst hwr
    have hc97 := cnt_le (s.take i) 0 (by omega)
    by_cases hlt : i < L
    · obtain ⟨c, hc⟩ : ∃ c, s[i]? = some c := ⟨s[i]'(by rw [← HL.out.1]; exact hlt), List.getElem?_eq_getElem _⟩
      have hdc : dgtB c = true := List.all_eq_true.1 HL.out.2 c (List.mem_of_getElem? hc)
      unfold dgtB at hdc
      rw [Bool.and_eq_true, decide_eq_true_eq, decide_eq_true_eq] at hdc
      have hidx : ∀ w, (Instr.index 9 (S s) (.int .i64 (i : Int))).run Tryz.prog w = .ok (B c) w := fun w => index_S (P := Tryz.prog) Tryz.underlying9 s i c hc w
      have HN : Hid (cntGo 0 (s.take (i + 1)) = cntS (cntGo 0 (s.take i)) (c.toNat - 48)) := Lib.hid (by
        rw [List.take_add_one, hc]
        show cntGo 0 (s.take i ++ [c]) = _
        unfold cntGo
        rw [List.foldl_append, List.foldl_cons, List.foldl_nil])
      obtain ⟨n, hn⟩ : ∃ n, n = cntGo 0 (s.take i) := ⟨_, rfl⟩
      rw [← hn] at HN hc97 ⊢
      obtain ⟨d, hd⟩ : ∃ d : UInt8, d = c - 48 := ⟨_, rfl⟩
      have hdn : d.toNat = c.toNat - 48 := by rw [hd, UInt8.toNat_sub_of_le _ _ (UInt8.le_iff_toNat_le.2 (show (48 : UInt8).toNat ≤ c.toNat from hdc.1))]; rfl
      have hsb : binOp .sub 5 (B c) (.int .u8 48) = pure (B d) := by rw [hd]; exact B_sub48 5 c hdc.1
      have c0 : ∀ w, (convert 5 3 (B d)).run Tryz.prog w = .ok (.int .i64 (d.toNat : Int)) w := fun w => conv_byte (P := Tryz.prog) Tryz.underlying5 Tryz.underlying3 d w
      obtain ⟨y, hy⟩ : ∃ y : Nat, y = d.toNat := ⟨_, rfl⟩
      rw [← hy] at c0 hdn
      rw [← hdn] at HN
      have hw2 : IntKind.i64.wrap ((n : Int) * 10) = (n : Int) * 10 := by rw [IntKind.wrap_i64]; omega
      have hw3 : IntKind.i64.wrap ((n : Int) * 10 + (y : Int)) = ((n * 10 + y : Nat) : Int) := by rw [IntKind.wrap_i64]; omega
      have hmn : ∀ w, (Builtin.min_ #[3, 3] 3 #[.int .i64 ((n * 10 + y : Nat) : Int), .int .i64 4097]).run Tryz.prog w = .ok (.int .i64 (cntS n y : Int)) w := fun w => by
        rw [run_min_int2]
        unfold cntS
        congr 2
        split <;> omega
      have hw1 : IntKind.i64.wrap ((i : Int) + 1) = (i : Int) + 1 := by rw [IntKind.wrap_i64]; omega
      clear hn hc hdc hd hdn hy hc97
      generalize n * 10 + y = z at *
      go_wp2
      exact ⟨⟨i + 1, by omega, by rw [HN.out], by go_num, by trivial⟩, by simp [intOf]; omega⟩
    · obtain rfl : i = L := by omega
      have HB : Hid (s.take i = s) := Lib.hid (by rw [HL.out.1, List.take_length])
      go_wp2
      go_ret
      exact ⟨by rw [HB.out]; rfl, rfl⟩
end Go.Proofs.YtplajlccnnbifaaGreatDoor
/- The landed request's tests of a head walked: hosts, encodings, lengths, what ends a connection. -/
namespace Go.Proofs.YtplajlccnnbifaaGreatDoor
open Go.RowKit Go.Shelf
attribute [local go_sem] store_one S_match S_store eguard_BN nguard_BN

/-- Not too many fields, none too long. -/
structure Short (fs : List (List UInt8 × List UInt8)) : Prop where
  few : fs.length ≤ 1000000
  long : ∀ f ∈ fs, f.1.length ≤ 100000 ∧ f.2.length ≤ 100000
def hostU : List UInt8 := [72, 111, 115, 116]
def teU : List UInt8 := [84, 114, 97, 110, 115, 102, 101, 114, 45, 69, 110, 99, 111, 100, 105, 110, 103]
def clU : List UInt8 := [67, 111, 110, 116, 101, 110, 116, 45, 76, 101, 110, 103, 116, 104]
def coU : List UInt8 := [67, 111, 110, 110, 101, 99, 116, 105, 111, 110]
theorem alike_to {a b : List UInt8} (h : a.map lowB = b.map lowB) (x : List UInt8) : alikeF x a = alikeF x b := by unfold alikeF; rw [h]
theorem host_low (x : List UInt8) : alikeF x hostU = alikeF x hostL := alike_to (by decide) x
theorem te_low (x : List UInt8) : alikeF x teU = alikeF x teL := alike_to (by decide) x
theorem cl_low (x : List UInt8) : alikeF x clU = alikeF x clL := alike_to (by decide) x
theorem co_low (x : List UInt8) : alikeF x coU = alikeF x coL := alike_to (by decide) x
theorem many_low {a b : List UInt8} (h : ∀ x, alikeF x a = alikeF x b) : ∀ fs, manyF a fs = manyF b fs
  | [] => rfl
  | g :: fs => by rw [many_cons, many_cons, h, many_low h fs]
theorem first_low {a b : List UInt8} (h : ∀ x, alikeF x a = alikeF x b) : ∀ fs, firstF a fs = firstF b fs
  | [] => rfl
  | g :: fs => by rw [firstF, firstF, h, first_low h fs]
def hostB (v : Nat) (fs : List (List UInt8 × List UInt8)) : Bool := (v != 11) || (manyF hostL fs == 1)
def encB (v : Nat) (fs : List (List UInt8 × List UInt8)) : Bool := (manyF teL fs == 0) || ((manyF teL fs == 1) && (manyF clL fs == 0) && (v != 10) && alikeF (firstF teL fs) chL)
def sameB (fs : List (List UInt8 × List UInt8)) (v : List UInt8) : Bool := fs.all fun f => !(alikeF f.1 clL) || f.2 == v
def lenB (fs : List (List UInt8 × List UInt8)) : Bool := sameB fs (firstF clL fs) && ((manyF clL fs == 0) || ((firstF clL fs != []) && (firstF clL fs).all dgtB))
def anyC (fs : List (List UInt8 × List UInt8)) : Bool := fs.any fun f => alikeF f.1 coL && hasF f.2 closeL
theorem hostB_iff {v : Nat} {fs : List (List UInt8 × List UInt8)} : hostB v fs = true ↔ hostOk v fs := by unfold hostB hostOk; simp
theorem encB_iff {v : Nat} {fs : List (List UInt8 × List UInt8)} : encB v fs = true ↔ encOk v fs := by unfold encB encOk; simp [and_assoc]
theorem lenB_iff {fs : List (List UInt8 × List UInt8)} : lenB fs = true ↔ lenOk fs := by
  unfold lenB lenOk sameB
  rw [Bool.and_eq_true]
  refine and_congr ?_ (by simp)
  rw [List.all_eq_true]
  refine forall_congr' fun f => forall_congr' fun _ => ?_
  cases alikeF f.1 clL <;> simp
/-- What stands beside the request's box. -/
structure Boxed (w : World) (m p q : List UInt8) (v : Nat) (V : Value) (body : List UInt8) (cl : Bool) (fs : List (List UInt8 × List UInt8)) (gf : Nat) (W : World) : Prop where
  row : Row W w.heap.size (rqCells m p q v V body cl) 27
  flds : FldsAt W V fs gf
  bel : Below w.heap.size w W
theorem Boxed.below {w W W' : World} {m p q : List UInt8} {v : Nat} {V : Value} {body : List UInt8} {cl : Bool} {fs : List (List UInt8 × List UInt8)} {gf : Nat} (h : Boxed w m p q v V body cl fs gf W) (hb : Below W.heap.size W W') : Boxed w m p q v V body cl fs gf W' :=
  ⟨h.row.below hb h.row.lt, h.flds.below hb, h.bel.trans (hb.mono h.bel.size)⟩
theorem boxed_new {w : World} {m p q : List UInt8} {v : Nat} {V : Value} {body : List UInt8} {cl : Bool} {fs : List (List UInt8 × List UInt8)} {gf : Nat} (h : FldsAt w V fs gf) : Boxed w m p q v V body cl fs gf (w.alloc (.cells (rqCells m p q v V body cl) 27)) :=
  ⟨row_new _ _ _, h.below ((Below.refl _ w).alloc (Nat.le_refl _) _), (Below.refl _ w).alloc (Nat.le_refl _) _⟩
set_option maxRecDepth 100000 in
set_option maxHeartbeats 1000000 in
theorem hosts_any (m p q : List UInt8) (v : Nat) (V : Value) (body : List UInt8) (cl : Bool) (fs : List (List UInt8 × List UInt8)) (gf : Nat) (hs : Short fs) (w : World) (hV : FldsAt w V fs gf) :
    Calls Tryz.prog 75 #[.agg (rqCells m p q v V body cl)] w fun e w' => e = .returned (.bool (hostB v fs)) ∧ Below w.heap.size w w' := by
  have hX := boxed_new (m := m) (p := p) (q := q) (v := v) (body := body) (cl := cl) hV
  unfold rqCells at hX ⊢
  obtain ⟨W1, hW1⟩ : ∃ W1, W1 = w.alloc (.cells #[S m, S p, S q, .int .i64 (v : Int), V, S body, .bool cl] 27) := ⟨_, rfl⟩
  rw [← hW1] at hX
  have c4 : W1.cell? ⟨w.heap.size, 4, none⟩ = some V := cell_of_row W1 _ 4 _ _ (0, 0) hX.row
  have hc := get_any V fs gf hostU (by decide) hs.few (fun f hf => (hs.long f hf).1) W1 hX.flds
  rw [many_low host_low] at hc
  have HX := Lib.hid hX
  obtain ⟨b, hb⟩ : ∃ b, b = w.heap.size := ⟨_, rfl⟩
  rw [← hb] at c4
  have HB := Lib.hid hb
  have HH : Hid (hostB v fs = ((v != 11) || (manyF hostL fs == 1))) := Lib.hid rfl
  generalize manyF hostL fs = N at *
  generalize hostB v fs = R at *
  clear hX hs hV
  go_enter Tryz.func75, Tryz.ntmps75
  go_wp2_with fail
  rw [← hW1, ← hb]
  clear hW1 hb
  refine hc.mono ?_
  rintro e W2 ⟨rfl, hB⟩
  have hX2 := HX.out.below hB
  have c3 : W2.cell? ⟨b, 3, none⟩ = some (.int .i64 (v : Int)) := by rw [HB.out]; exact cell_of_row W2 _ 3 _ _ (0, 0) hX2.row
  have H2 := Lib.hid hX2.bel
  clear hX2 hB c4 hc
  by_cases h11 : v = 11
  · have g1 : ((v : Int) == 11) = true := by rw [beq_iff_eq]; omega
    have g2 : ((v : Int) != 11) = false := by rw [bne_eq_false_iff_eq]; omega
    by_cases hN : N = 1
    · have g3 : ((N : Int) == 1) = true := by rw [beq_iff_eq]; omega
      have HR : Hid (R = true) := Lib.hid (by rw [HH.out, hN]; simp)
      clear h11 hN
      go_wp2
      go_ret
      exact ⟨by rw [HR.out]; rfl, H2.out⟩
    · have g3 : ((N : Int) == 1) = false := by rw [beq_eq_false_iff_ne]; omega
      have HR : Hid (R = false) := Lib.hid (by rw [HH.out, h11]; simpa using hN)
      clear h11 hN
      go_wp2
      go_ret
      exact ⟨by rw [HR.out]; rfl, H2.out⟩
  · have g1 : ((v : Int) == 11) = false := by rw [beq_eq_false_iff_ne]; omega
    have g2 : ((v : Int) != 11) = true := by rw [bne_iff_ne]; omega
    have HR : Hid (R = true) := Lib.hid (by rw [HH.out]; simp [h11])
    clear h11
    go_wp2
    go_ret
    exact ⟨by rw [HR.out]; rfl, H2.out⟩
set_option maxRecDepth 100000 in
set_option maxHeartbeats 2000000 in
theorem encoding_any (m p q : List UInt8) (v : Nat) (V : Value) (body : List UInt8) (cl : Bool) (fs : List (List UInt8 × List UInt8)) (gf : Nat) (hs : Short fs) (w : World) (hV : FldsAt w V fs gf) :
    Calls Tryz.prog 76 #[.agg (rqCells m p q v V body cl)] w fun e w' => e = .returned (.bool (encB v fs)) ∧ Below w.heap.size w w' := by
  have hX := boxed_new (m := m) (p := p) (q := q) (v := v) (body := body) (cl := cl) hV
  unfold rqCells at hX ⊢
  obtain ⟨W1, hW1⟩ : ∃ W1, W1 = w.alloc (.cells #[S m, S p, S q, .int .i64 (v : Int), V, S body, .bool cl] 27) := ⟨_, rfl⟩
  rw [← hW1] at hX
  have c4 : W1.cell? ⟨w.heap.size, 4, none⟩ = some V := cell_of_row W1 _ 4 _ _ (0, 0) hX.row
  have hc : ∀ W, FldsAt W V fs gf → Calls Tryz.prog 78 #[V, S teU] W fun e w' => e = .returned (.tuple #[S (firstF teL fs), .int .i64 (manyF teL fs : Int)]) ∧ Below W.heap.size W w' := fun W h => by
    have := get_any V fs gf teU (by decide) hs.few (fun f hf => (hs.long f hf).1) W h
    rwa [many_low te_low, first_low te_low] at this
  have hd : ∀ W, FldsAt W V fs gf → Calls Tryz.prog 78 #[V, S clU] W fun e w' => e = .returned (.tuple #[S (firstF clL fs), .int .i64 (manyF clL fs : Int)]) ∧ Below W.heap.size W w' := fun W h => by
    have := get_any V fs gf clU (by decide) hs.few (fun f hf => (hs.long f hf).1) W h
    rwa [many_low cl_low, first_low cl_low] at this
  have hfl : (firstF teL fs).length ≤ 100000 := by
    by_cases h0 : manyF teL fs = 0
    · rw [first_none h0]; simp
    · obtain ⟨f, hf, _, e⟩ := first_some h0
      rw [e]; exact (hs.long f hf).2
  have HA := Lib.hid fun W => alike16_any (firstF teL fs) chL hfl (by decide) W
  have HC := Lib.hid (And.intro hc hd)
  have HX := Lib.hid hX
  obtain ⟨b, hb⟩ : ∃ b, b = w.heap.size := ⟨_, rfl⟩
  rw [← hb] at c4
  have HB := Lib.hid hb
  have HH : Hid (encB v fs = ((manyF teL fs == 0) || ((manyF teL fs == 1) && (manyF clL fs == 0) && (v != 10) && alikeF (firstF teL fs) chL))) := Lib.hid rfl
  generalize manyF teL fs = T at *
  generalize firstF teL fs = ft at *
  generalize manyF clL fs = N at *
  generalize firstF clL fs = fn at *
  generalize encB v fs = R at *
  clear hX hs hV hc hd hfl
  go_enter Tryz.func76, Tryz.ntmps76
  go_wp2_with fail
  rw [← hW1, ← hb]
  clear hW1 hb
  refine (HC.out.1 W1 HX.out.flds).mono ?_
  rintro e W2 ⟨rfl, hB⟩
  have hX2 := HX.out.below hB
  have c4 : W2.cell? ⟨b, 4, none⟩ = some V := by rw [HB.out]; exact cell_of_row W2 _ 4 _ _ (0, 0) hX2.row
  have H2 := Lib.hid hX2
  clear hX2 hB
  go_wp2_with fail
  refine (HC.out.2 W2 H2.out.flds).mono ?_
  rintro e W3 ⟨rfl, hB⟩
  have hX3 := H2.out.below hB
  have c3 : W3.cell? ⟨b, 3, none⟩ = some (.int .i64 (v : Int)) := by rw [HB.out]; exact cell_of_row W3 _ 3 _ _ (0, 0) hX3.row
  have H3 := Lib.hid hX3.bel
  clear hX3 hB c4 H2
  by_cases h0 : T = 0
  · have g1 : ((T : Int) == 0) = true := by rw [beq_iff_eq]; omega
    have HR : Hid (R = true) := Lib.hid (by rw [HH.out, h0]; simp)
    clear h0
    go_wp2
    go_ret
    exact ⟨by rw [HR.out]; rfl, H3.out⟩
  have g1 : ((T : Int) == 0) = false := by rw [beq_eq_false_iff_ne]; omega
  by_cases h1 : T = 1
  · have g2 : ((T : Int) == 1) = true := by rw [beq_iff_eq]; omega
    by_cases hN : N = 0
    · have g3 : ((N : Int) == 0) = true := by rw [beq_iff_eq]; omega
      by_cases h10 : v = 10
      · have g4 : ((v : Int) != 10) = false := by rw [bne_eq_false_iff_eq]; omega
        have g5 : ((v : Int) == 10) = true := by rw [beq_iff_eq]; omega
        have HR : Hid (R = false) := Lib.hid (by rw [HH.out, h1, hN, h10]; simp)
        clear h0 h1 hN h10
        go_wp2
        go_ret
        exact ⟨by rw [HR.out]; rfl, H3.out⟩
      · have g4 : ((v : Int) != 10) = true := by rw [bne_iff_ne]; omega
        have g5 : ((v : Int) == 10) = false := by rw [beq_eq_false_iff_ne]; omega
        have HR : Hid (R = alikeF ft chL) := Lib.hid (by rw [HH.out, h1, hN]; simp [h10])
        clear h0 h1 hN h10
        go_wp2_with fail
        refine (HA.out W3).mono ?_
        rintro e W4 ⟨rfl, hD⟩
        have H4 := Lib.hid (H3.out.trans (hD.below.mono H3.out.size))
        clear hD H3
        go_wp2
        go_ret
        exact ⟨by rw [HR.out]; rfl, H4.out⟩
    · have g3 : ((N : Int) == 0) = false := by rw [beq_eq_false_iff_ne]; omega
      have HR : Hid (R = false) := Lib.hid (by rw [HH.out, h1]; simp [hN])
      clear h0 h1 hN
      go_wp2
      go_ret
      exact ⟨by rw [HR.out]; rfl, H3.out⟩
  · have g2 : ((T : Int) == 1) = false := by rw [beq_eq_false_iff_ne]; omega
    have HR : Hid (R = false) := Lib.hid (by rw [HH.out]; simp [h0, h1])
    clear h0 h1
    go_wp2
    go_ret
    exact ⟨by rw [HR.out]; rfl, H3.out⟩
end Go.Proofs.YtplajlccnnbifaaGreatDoor
/- The landed request's lengthsMayBe and closes walked. -/
namespace Go.Proofs.YtplajlccnnbifaaGreatDoor
open Go.RowKit Go.Shelf
attribute [local go_sem] store_one S_match S_store eguard_BN nguard_BN

theorem trim10_any (s : List UInt8) (hs : s.length ≤ 100000) (w : World) : Calls Tryz.prog 65 #[S s, .string ⟨#[48, 49, 50, 51, 52, 53, 54, 55, 56, 57]⟩] w fun e w' => e = .returned (S (Lib.trimS s digL)) ∧ Below w.heap.size w w' :=
  Any.strings_Trim_laid Tryz.lays160 (by kernel_rfl) ⟨s.toArray⟩ ⟨#[48, 49, 50, 51, 52, 53, 54, 55, 56, 57]⟩ w (by show s.length ≤ _; omega) (by decide) (Go.Proofs.ascii_of_all (by decide))
theorem same_snoc (v : List UInt8) (f : List UInt8 × List UInt8) (l : List (List UInt8 × List UInt8)) : sameB (l ++ [f]) v = (sameB l v && (!(alikeF f.1 clL) || f.2 == v)) := by
  unfold sameB; rw [List.all_append]; simp
theorem same_of_take {v : List UInt8} {fs : List (List UInt8 × List UInt8)} {k : Nat} (h : sameB (fs.take k) v = false) : sameB fs v = false := by
  unfold sameB at *
  rw [List.all_eq_false] at *
  obtain ⟨f, hf, h2⟩ := h
  exact ⟨f, List.mem_of_mem_take hf, h2⟩
theorem anyC_snoc (f : List UInt8 × List UInt8) (l : List (List UInt8 × List UInt8)) : anyC (l ++ [f]) = (anyC l || (alikeF f.1 coL && hasF f.2 closeL)) := by
  unfold anyC; rw [List.any_append]; simp
theorem anyC_of_take {fs : List (List UInt8 × List UInt8)} {k : Nat} (h : anyC (fs.take k) = true) : anyC fs = true := by
  unfold anyC at *
  rw [List.any_eq_true] at *
  obtain ⟨f, hf, h2⟩ := h
  exact ⟨f, List.mem_of_mem_take hf, h2⟩
set_option maxRecDepth 100000 in
set_option maxHeartbeats 2000000 in
theorem lengths_any (V : Value) (fs : List (List UInt8 × List UInt8)) (gf : Nat) (hs : Short fs) (w : World) (hV : FldsAt w V fs gf) :
    Calls Tryz.prog 77 #[V] w fun e w' => e = .returned (.bool (lenB fs)) ∧ Below w.heap.size w w' := by
  have hc : Calls Tryz.prog 78 #[V, S clU] w fun e w' => e = .returned (.tuple #[S (firstF clL fs), .int .i64 (manyF clL fs : Int)]) ∧ Below w.heap.size w w' := by
    have := get_any V fs gf clU (by decide) hs.few (fun f hf => (hs.long f hf).1) w hV
    rwa [many_low cl_low, first_low cl_low] at this
  have hfl : (firstF clL fs).length ≤ 100000 := by
    by_cases h0 : manyF clL fs = 0
    · rw [first_none h0]; simp
    · obtain ⟨f, hf, _, e⟩ := first_some h0
      rw [e]; exact (hs.long f hf).2
  have hlen := hV.len 3
  obtain ⟨n, hn⟩ : ∃ n, n = fs.length := ⟨_, rfl⟩
  rw [← hn] at hlen
  have hfew : n ≤ 1000000 := by rw [hn]; exact hs.few
  have HV := Lib.hid (And.intro hV (And.intro hs hn))
  have HT := Lib.hid (And.intro hfl (fun W => trim10_any (firstF clL fs) hfl W))
  have HH : Hid (lenB fs = (sameB fs (firstF clL fs) && ((manyF clL fs == 0) || ((firstF clL fs != []) && (firstF clL fs).all dgtB)))) := Lib.hid rfl
  have HX : Hid (Lib.trimS (firstF clL fs) digL = [] ↔ (firstF clL fs).all dgtB = true) := Lib.hid (trim_dig _)
  generalize manyF clL fs = N at *
  generalize firstF clL fs = fv at *
  generalize lenB fs = R at *
  generalize Lib.trimS fv digL = X at *
  clear hV hs hn hfl
  go_enter Tryz.func77, Tryz.ntmps77
  go_wp2_with fail
  refine hc.mono ?_
  rintro e W1 ⟨rfl, hB⟩
  have H1 := Lib.hid hB
  clear hB hc
  go_wp2
  go_loopw [14] (fun iv wr => ∃ k : Nat, k ≤ n ∧ iv = .int .i64 (k : Int) ∧ Hid (Below w.heap.size w wr ∧ sameB (fs.take k) fv = true)) (fun iv _ => n - (intOf iv).toNat)
  case atStart => exact ⟨0, Nat.zero_le _, rfl, Lib.hid ⟨H1.out, rfl⟩⟩
  case round =>
    obtain ⟨k, hk, rfl, HB⟩ := hrel
    by_cases hlt : k < n
    · have hVr := HV.out.1.below HB.out.1
      have hkl : k < fs.length := by rw [← HV.out.2.2]; exact hlt
      obtain ⟨⟨nk, vk⟩, hf⟩ : ∃ f, fs[k]? = some f := ⟨fs[k], List.getElem?_eq_getElem hkl⟩
      have hix := hVr.index k hkl
      obtain ⟨c0, c1⟩ := hVr.cell k _ hf
      dsimp only at c0 c1
      have hlk := HV.out.2.1.long _ (List.mem_of_getElem? hf)
      have HA : Hid (∀ W, Calls Tryz.prog 37 #[S nk, S clU] W fun e w' => e = .returned (.bool (alikeF nk clL)) ∧ Below W.heap.size W w') := Lib.hid fun W => by
        rw [← cl_low]
        exact (alike16_any nk clU hlk.1 (by decide) W).mono fun e w' h => ⟨h.1, h.2.below⟩
      have HG : Hid (sameB (fs.take (k + 1)) fv = (!(alikeF nk clL) || vk == fv)) := Lib.hid (by
        rw [List.take_add_one, hf]
        have := same_snoc fv (nk, vk) (fs.take k)
        rw [HB.out.2, Bool.true_and] at this
        exact this)
      clear hVr hf hkl hlk
      generalize k * 2 = q at *
      obtain ⟨W2, hW2⟩ : ∃ W2, W2 = wr.alloc (.cells #[S nk, S vk] 47) := ⟨_, rfl⟩
      obtain ⟨g, hg⟩ : ∃ g, g = wr.heap.size := ⟨_, rfl⟩
      have hr2 : Row W2 g #[S nk, S vk] 47 := by rw [hW2, hg]; exact row_new wr _ _
      have hB2 : Below w.heap.size w W2 := by rw [hW2]; exact HB.out.1.alloc HB.out.1.size _
      have H2 := Lib.hid (And.intro hr2 hB2)
      clear hr2 hB2
      have hw2 : IntKind.i64.wrap ((k : Int) + 1) = (k : Int) + 1 := by rw [IntKind.wrap_i64]; omega
      go_wp2_with fail
      rw [← hg, ← hW2]
      clear hg hW2 c0 c1 hix
      refine (HA.out W2).mono ?_
      rintro e W3 ⟨rfl, hD⟩
      have hr3 := H2.out.1.below hD H2.out.1.lt
      have c3 := cell_of_row W3 _ 1 _ 47 (0, 0) hr3
      have H3 : Hid (Below w.heap.size w W3) := Lib.hid (H2.out.2.trans (hD.mono H2.out.2.size))
      clear hD hr3 H2
      cases hb : alikeF nk clL with
      | true =>
        have e0 : binOp .neq 9 (S vk) (S fv) = pure (.bool (vk != fv)) := neql_S 9 vk fv
        have g0 : ∀ x y, eqGuard .neq 9 x y (S vk) (S fv) = pure () := fun x y => nguard_S 9 x y vk fv
        by_cases hvf : vk = fv
        · have HG2 : Hid (sameB (fs.take (k + 1)) fv = true) := Lib.hid (by rw [HG.out, hb, hvf]; simp)
          rw [show (vk != fv) = false by rw [bne_eq_false_iff_eq]; exact hvf] at e0
          clear hb hvf
          go_wp2
          exact ⟨⟨k + 1, by omega, by go_num, Lib.hid ⟨H3.out, HG2.out⟩⟩, by simp [intOf]; omega⟩
        · have HG2 : Hid (R = false) := Lib.hid (by
            have h1 : sameB (fs.take (k + 1)) fv = false := by rw [HG.out, hb]; simpa using hvf
            rw [HH.out, same_of_take h1, Bool.false_and])
          rw [show (vk != fv) = true by rw [bne_iff_ne]; exact hvf] at e0
          clear hb hvf
          go_wp2
          go_ret
          exact ⟨by rw [HG2.out]; rfl, H3.out⟩
      | false =>
        have HG2 : Hid (sameB (fs.take (k + 1)) fv = true) := Lib.hid (by rw [HG.out, hb]; simp)
        clear hb
        go_wp2
        exact ⟨⟨k + 1, by omega, by go_num, Lib.hid ⟨H3.out, HG2.out⟩⟩, by simp [intOf]; omega⟩
    · obtain rfl : k = n := by omega
      have HS : Hid (sameB fs fv = true) := Lib.hid (by have := HB.out.2; rwa [HV.out.2.2, List.take_length] at this)
      by_cases hN : N = 0
      · have g1 : ((N : Int) == 0) = true := by rw [beq_iff_eq]; omega
        have HR : Hid (R = true) := Lib.hid (by rw [HH.out, HS.out, hN]; simp)
        clear hN
        go_wp2
        go_ret
        exact ⟨by rw [HR.out]; rfl, HB.out.1⟩
      · have g1 : ((N : Int) == 0) = false := by rw [beq_eq_false_iff_ne]; omega
        have e0 : binOp .neq 9 (S fv) (.string ⟨#[]⟩) = pure (.bool (fv != [])) := neql_S 9 fv []
        have g0 : ∀ x y, eqGuard .neq 9 x y (S fv) (.string ⟨#[]⟩) = pure () := fun x y => nguard_S 9 x y fv []
        by_cases hfe : fv = []
        · have HR : Hid (R = false) := Lib.hid (by rw [HH.out, HS.out, hfe]; simpa using hN)
          rw [show (fv != []) = false by rw [bne_eq_false_iff_eq]; exact hfe] at e0
          clear hN hfe
          go_wp2
          go_ret
          exact ⟨by rw [HR.out]; rfl, HB.out.1⟩
        · have e1 : binOp .eql 9 (S X) (.string ⟨#[]⟩) = pure (.bool (X == [])) := eql_S 9 X []
          have g2 : ∀ x y, eqGuard .eql 9 x y (S X) (.string ⟨#[]⟩) = pure () := fun x y => guard_S 9 x y X []
          have HR : Hid (R = (X == [])) := Lib.hid (by
            rw [HH.out, HS.out]
            have h1 : (N == 0) = false := by rw [beq_eq_false_iff_ne]; exact hN
            have h2 : (fv != []) = true := by rw [bne_iff_ne]; exact hfe
            rw [h1, h2, Bool.true_and, Bool.false_or, Bool.true_and]
            rw [Bool.eq_iff_iff, beq_iff_eq, HX.out])
          rw [show (fv != []) = true by rw [bne_iff_ne]; exact hfe] at e0
          clear hN hfe
          go_wp2_with fail
          refine (HT.out.2 wr).mono ?_
          rintro e W4 ⟨rfl, hB4⟩
          have H4 := Lib.hid (HB.out.1.trans (hB4.mono HB.out.1.size))
          clear hB4
          go_wp2
          go_ret
          exact ⟨by rw [HR.out]; cases X <;> rfl, H4.out⟩
set_option maxRecDepth 100000 in
set_option maxHeartbeats 2000000 in
theorem closes_any (m p q : List UInt8) (v : Nat) (V : Value) (body : List UInt8) (cl : Bool) (fs : List (List UInt8 × List UInt8)) (gf : Nat) (hs : Short fs) (w : World) (hV : FldsAt w V fs gf) :
    Calls Tryz.prog 112 #[.agg (rqCells m p q v V body cl)] w fun e w' => e = .returned (.bool (anyC fs || (v == 10))) ∧ Below w.heap.size w w' := by
  have hX := boxed_new (m := m) (p := p) (q := q) (v := v) (body := body) (cl := cl) hV
  unfold rqCells at hX ⊢
  obtain ⟨W1, hW1⟩ : ∃ W1, W1 = w.alloc (.cells #[S m, S p, S q, .int .i64 (v : Int), V, S body, .bool cl] 27) := ⟨_, rfl⟩
  rw [← hW1] at hX
  have c4 : W1.cell? ⟨w.heap.size, 4, none⟩ = some V := cell_of_row W1 _ 4 _ _ (0, 0) hX.row
  have hlen := hV.len 3
  obtain ⟨n, hn⟩ : ∃ n, n = fs.length := ⟨_, rfl⟩
  rw [← hn] at hlen
  have hfew : n ≤ 1000000 := by rw [hn]; exact hs.few
  have HX := Lib.hid hX
  have HV := Lib.hid (And.intro hs hn)
  obtain ⟨b, hb⟩ : ∃ b, b = w.heap.size := ⟨_, rfl⟩
  rw [← hb] at c4
  have HB := Lib.hid hb
  have HH : Hid ((anyC fs || (v == 10)) = (anyC fs || (v == 10))) := Lib.hid rfl
  generalize hR : (anyC fs || (v == 10)) = R at HH ⊢
  have HR0 := Lib.hid hR
  clear hX hV hs hn hR HH
  go_enter Tryz.func112, Tryz.ntmps112
  go_wp2_with fail
  all_goals try rw [← hW1, ← hb]
  clear hW1 hb c4
  go_loopw [8] (fun iv wr => ∃ k : Nat, k ≤ n ∧ iv = .int .i64 (k : Int) ∧ Hid (Boxed w m p q v V body cl fs gf wr ∧ anyC (fs.take k) = false)) (fun iv _ => n - (intOf iv).toNat)
  case atStart => exact ⟨0, Nat.zero_le _, rfl, Lib.hid ⟨HX.out, rfl⟩⟩
  case round =>
    obtain ⟨k, hk, rfl, HR⟩ := hrel
    by_cases hlt : k < n
    · have hkl : k < fs.length := by rw [← HV.out.2]; exact hlt
      obtain ⟨⟨nk, vk⟩, hf⟩ : ∃ f, fs[k]? = some f := ⟨fs[k], List.getElem?_eq_getElem hkl⟩
      have hix := HR.out.1.flds.index k hkl
      obtain ⟨c0, c1⟩ := HR.out.1.flds.cell k _ hf
      dsimp only at c0 c1
      have hlk := HV.out.1.long _ (List.mem_of_getElem? hf)
      have HA : Hid (∀ W, Calls Tryz.prog 37 #[S nk, S coU] W fun e w' => e = .returned (.bool (alikeF nk coL)) ∧ Below W.heap.size W w') := Lib.hid fun W => by
        rw [← co_low]
        exact (alike16_any nk coU hlk.1 (by decide) W).mono fun e w' h => ⟨h.1, h.2.below⟩
      have HS := Lib.hid fun W => has14_any vk closeL hlk.2 (by decide) W
      have HG : Hid (anyC (fs.take (k + 1)) = (alikeF nk coL && hasF vk closeL)) := Lib.hid (by
        rw [List.take_add_one, hf]
        have := anyC_snoc (nk, vk) (fs.take k)
        rw [HR.out.2, Bool.false_or] at this
        exact this)
      clear hf hkl hlk
      generalize k * 2 = i2 at *
      obtain ⟨W2, hW2⟩ : ∃ W2, W2 = wr.alloc (.cells #[S nk, S vk] 47) := ⟨_, rfl⟩
      obtain ⟨g, hg⟩ : ∃ g, g = wr.heap.size := ⟨_, rfl⟩
      have hr2 : Row W2 g #[S nk, S vk] 47 := by rw [hW2, hg]; exact row_new wr _ _
      have hB2 : Boxed w m p q v V body cl fs gf W2 := by rw [hW2]; exact HR.out.1.below ((Below.refl _ wr).alloc (Nat.le_refl _) _)
      have H2 := Lib.hid (And.intro hr2 hB2)
      clear hr2 hB2
      have hw2 : IntKind.i64.wrap ((k : Int) + 1) = (k : Int) + 1 := by rw [IntKind.wrap_i64]; omega
      go_wp2_with fail
      rw [← hg, ← hW2]
      clear hg hW2 c0 c1 hix
      refine (HA.out W2).mono ?_
      rintro e W3 ⟨rfl, hD⟩
      have hr3 := H2.out.1.below hD H2.out.1.lt
      have c3 := cell_of_row W3 _ 1 _ 47 (0, 0) hr3
      have H3 := Lib.hid (H2.out.2.below hD)
      clear hD hr3 H2
      cases hb : alikeF nk coL with
      | true =>
        have HG2 : Hid (anyC (fs.take (k + 1)) = hasF vk closeL) := Lib.hid (by rw [HG.out, hb, Bool.true_and])
        clear hb
        go_wp2_with fail
        refine (HS.out W3).mono ?_
        rintro e W4 ⟨rfl, hD⟩
        have H4 := Lib.hid (H3.out.below hD)
        clear hD
        cases hh : hasF vk closeL with
        | true =>
          have HG3 : Hid (R = true) := Lib.hid (by rw [← HR0.out, anyC_of_take (HG2.out.trans hh), Bool.true_or])
          clear hh
          go_wp2
          go_ret
          exact ⟨by rw [HG3.out]; rfl, H4.out.bel⟩
        | false =>
          have HG3 : Hid (anyC (fs.take (k + 1)) = false) := Lib.hid (HG2.out.trans hh)
          clear hh
          go_wp2
          exact ⟨⟨k + 1, by omega, by go_num, Lib.hid ⟨H4.out, HG3.out⟩⟩, by simp [intOf]; omega⟩
      | false =>
        have HG2 : Hid (anyC (fs.take (k + 1)) = false) := Lib.hid (by rw [HG.out, hb, Bool.false_and])
        clear hb
        go_wp2
        exact ⟨⟨k + 1, by omega, by go_num, Lib.hid ⟨H3.out, HG2.out⟩⟩, by simp [intOf]; omega⟩
    · obtain rfl : k = n := by omega
      have c3 : wr.cell? ⟨b, 3, none⟩ = some (.int .i64 (v : Int)) := by rw [HB.out]; exact cell_of_row wr _ 3 _ _ (0, 0) HR.out.1.row
      have HS : Hid (R = (v == 10)) := Lib.hid (by
        have := HR.out.2
        rw [HV.out.2, List.take_length] at this
        rw [← HR0.out, this, Bool.false_or])
      have hvv : ((v : Int) == 10) = (v == 10) := by
        rw [Bool.eq_iff_iff, beq_iff_eq, beq_iff_eq]; omega
      go_wp2
      go_ret
      exact ⟨by rw [HS.out]; first | rfl | (rw [← hvv]; rfl), HR.out.1.bel⟩
end Go.Proofs.YtplajlccnnbifaaGreatDoor
/- The landed request's requestOf walked. (mkrt6.py writes it.) -/
namespace Go.Proofs.YtplajlccnnbifaaGreatDoor
open Go.RowKit Go.Shelf
attribute [local go_sem] store_one S_match S_store eguard_BN nguard_BN

/-- A slice of texts, to be read. -/
structure Strs (w : World) (LV : Value) (ls : List (List UInt8)) (ad : Nat → Addr) : Prop where
  len : ∀ T w', (Builtin.len_ #[78] T #[LV]).run Tryz.prog w' = .ok (.int .i64 (ls.length : Int)) w'
  index : ∀ i, i < ls.length → ∀ w', (Instr.indexAt 78 LV (.int .i64 (i : Int))).run Tryz.prog w' = .ok (.pointer (some (ad i))) w'
  cell : ∀ i l, ls[i]? = some l → ∀ W, Below w.heap.size w W → W.cell? (ad i) = some (S l)
theorem Strs.below {w W : World} {LV : Value} {ls : List (List UInt8)} {ad : Nat → Addr} (h : Strs w LV ls ad) (hb : Below w.heap.size w W) : Strs W LV ls ad :=
  ⟨h.len, h.index, fun i l hl W' hW' => h.cell i l hl W' (hb.trans (hW'.mono hb.size))⟩
def reqB (l0 : List UInt8) (ls : List (List UInt8)) : Bool := (lineF l0).2.2.2 && (targetF (lineF l0).2.1).2.2 && ls.all fun l => (parseF l).2.2
theorem reqB_iff {l0 : List UInt8} {ls : List (List UInt8)} : reqB l0 ls = true ↔ reqOk l0 ls := by unfold reqB reqOk; simp [and_assoc]
/-- What requestOf tells. -/
def ReqPost (w : World) (l0 : List UInt8) (ls : List (List UInt8)) (e : Ending) (w' : World) : Prop := Below w.heap.size w w' ∧
  if reqB l0 ls = true then ∃ V, e = .returned (.tuple #[.agg (rqCells (reqF l0 ls).m (reqF l0 ls).p (reqF l0 ls).q (reqF l0 ls).v V [] (reqF l0 ls).cl), .bool true]) ∧ w'.ownsRow w.heap.size 47 2 V (ls.map pfF).length (fcells (ls.map pfF))
  else e = .returned (.tuple #[.agg zeroR, .bool false])
theorem parse_short {l : List UInt8} (h : l.length ≤ 100000) : (parseF l).1.length ≤ 100000 ∧ (parseF l).2.1.length ≤ 100000 := by
  obtain ⟨⟨a1, a2, a3⟩, ha⟩ : ∃ x, parseF l = x := ⟨_, rfl⟩
  rw [ha]
  cases a3 with
  | true => obtain ⟨_, _, _, h4, h5, _⟩ := parse_true ha; exact ⟨by dsimp only; omega, by dsimp only; omega⟩
  | false => obtain ⟨h4, h5⟩ := parse_no ha; subst h4 h5; simp
theorem line_target_short {l : List UInt8} (h : l.length ≤ 100000) : (lineF l).2.1.length ≤ 100000 := by
  obtain ⟨⟨m, tg, v, ok1⟩, hlf⟩ : ∃ x, lineF l = x := ⟨_, rfl⟩
  rw [hlf]
  cases ok1 with
  | true =>
    obtain ⟨_, _, _, h4⟩ := lineF_true hlf
    rcases h4 with ⟨_, h4⟩ | ⟨_, h4⟩ <;> (have := congrArg List.length h4; simp only [List.length_append, List.length_cons] at this; dsimp only; omega)
  | false => rw [(lineF_false hlf).2.1]; simp
theorem pf_short {ls : List (List UInt8)} (h : ∀ l ∈ ls, l.length ≤ 100000) (hl : ls.length ≤ 1000000) : Short (ls.map pfF) :=
  ⟨by rw [List.length_map]; exact hl, fun f hf => by obtain ⟨l, hm, rfl⟩ := List.mem_map.1 hf; exact parse_short (h l hm)⟩
theorem req_end {fn : Func} {p u : Tmp} (h : fn.results = #[.cell p 27, .tmp u]) (tmps : Array Value) (w : World) (g : Nat) (cs : Array Value) (hp : tmps.getD p undef = .pointer (some ⟨g, 0, none⟩)) (hg : Row w g cs 27) (h7 : cs.size = 7) :
    (results fn tmps).run Tryz.prog w = .ok (.tuple #[.agg cs, tmps.getD u undef]) w :=
  results_row_tmp h tmps w g 27 cs (0, 0) _ hp hg Tryz.underlying27 rfl (by rw [infoR, h7])
set_option maxRecDepth 100000 in
set_option maxHeartbeats 1000000 in
theorem requestof_any (l0 : List UInt8) (hl0 : l0.length ≤ 100000) (ls : List (List UInt8)) (hls : ∀ l ∈ ls, l.length ≤ 100000) (hfew : ls.length ≤ 100000) (LV : Value) (ad : Nat → Addr) (w : World) (hS : Strs w LV ls ad) :
    Calls Tryz.prog 74 #[S l0, LV] w fun e w' => ReqPost w l0 ls e w' := by
  obtain ⟨b4, hb4⟩ : ∃ b, b = w.heap.size := ⟨_, rfl⟩
  obtain ⟨W2, hW2⟩ : ∃ W, W = w.alloc (.cells zeroR 27) := ⟨_, rfl⟩
  have hB2 : Below w.heap.size w W2 := by rw [hW2]; exact (Below.refl _ w).alloc (Nat.le_refl _) _
  have hr2 : Row W2 b4 zeroR 27 := by rw [hW2, hb4]; exact row_new _ _ _
  have hW2' : W2 = w.alloc (.cells #[.string ⟨#[]⟩, .string ⟨#[]⟩, .string ⟨#[]⟩, .int .i64 0, .slice none 0 0, .string ⟨#[]⟩, .bool false] 27) := hW2
  have H2 := Lib.hid (And.intro hr2 (And.intro hB2 (hS.below hB2)))
  have HB4 := Lib.hid hb4
  have hlen := hS.len 3
  obtain ⟨N, hN⟩ : ∃ N, N = ls.length := ⟨_, rfl⟩
  rw [← hN] at hlen
  have hN6 : N ≤ 100000 := by omega
  have HN := Lib.hid (And.intro hN hls)
  have hdp := fun W => lparse_any l0 W hl0
  have htg := line_target_short hl0
  obtain ⟨⟨m, tg, v, ok1⟩, hlf⟩ : ∃ x, x = lineF l0 := ⟨_, rfl⟩
  rw [← hlf] at hdp htg
  dsimp only at htg
  rw [show lineV (m, tg, v, ok1) = .tuple #[S m, S tg, .int .i64 (v : Int), .bool ok1] from rfl] at hdp
  have hdt := fun W => ltarget_any tg W htg
  obtain ⟨⟨pa, qa, ok2⟩, htf⟩ : ∃ x, x = targetF tg := ⟨_, rfl⟩
  rw [← htf] at hdt
  rw [show targetV (pa, qa, ok2) = .tuple #[S pa, S qa, .bool ok2] from rfl] at hdt
  have HDP := Lib.hid hdp
  have HDT := Lib.hid hdt
  have HQ : Hid (reqB l0 ls = (ok1 && ok2 && ls.all fun l => (parseF l).2.2)) := Lib.hid (by unfold reqB; rw [← hlf]; dsimp only; rw [← htf])
  have HRF : Hid (reqF l0 ls = ⟨m, pa, qa, v, ls.map pfF, [], anyC (ls.map pfF) || v == 10⟩) := Lib.hid (by unfold reqF; rw [← hlf]; dsimp only; rw [← htf]; rfl)
  have HPS : Hid (∀ e w', ReqPost w l0 ls e w' = (Below w.heap.size w w' ∧
    if reqB l0 ls = true then ∃ V, e = .returned (.tuple #[.agg (rqCells (reqF l0 ls).m (reqF l0 ls).p (reqF l0 ls).q (reqF l0 ls).v V [] (reqF l0 ls).cl), .bool true]) ∧ w'.ownsRow w.heap.size 47 2 V (ls.map pfF).length (fcells (ls.map pfF))
    else e = .returned (.tuple #[.agg zeroR, .bool false]))) := Lib.hid fun _ _ => rfl
  generalize ReqPost w l0 ls = PO at *
  generalize reqB l0 ls = RB at *
  generalize reqF l0 ls = RF at *
  -- what is wrong, told
  have hbad : Hid (∀ (W : World) (tmps : Array Value), Row W b4 zeroR 27 → Below w.heap.size w W → tmps.getD 4 undef = .pointer (some ⟨b4, 0, none⟩) → tmps.getD 5 undef = .bool false → RB = false →
      bodyPost Tryz.prog Tryz.f74 PO .ret { tmps := tmps, defers := [] } (put7 W b4 (.string ⟨#[]⟩) (.string ⟨#[]⟩) (.string ⟨#[]⟩) (.int .i64 0) (.slice none 0 0) (.string ⟨#[]⟩) (.bool false))) := Lib.hid fun W tmps hr hB h4 h5 ho => by
    refine bodyPost_ret (req_end rfl _ _ b4 _ h4 (put7_row hr _ _ _ _ _ _ _) rfl) rfl ?_
    rw [HPS.out, ho, if_neg Bool.false_ne_true]
    exact ⟨put7_below hB (Nat.le_of_eq hb4.symm) _ _ _ _ _ _ _, by rw [h5]; rfl⟩
  have hgood : Hid (∀ (W : World) (V : Value) (c : Bool) (b13 : Nat) (tmps : Array Value), Row W b4 zeroR 27 → Below w.heap.size w W → W.ownsRow (b13 + 1) 47 2 V (ls.map pfF).length (fcells (ls.map pfF)) → w.heap.size < b13 → c = (anyC (ls.map pfF) || v == 10) → tmps.getD 4 undef = .pointer (some ⟨b4, 0, none⟩) → tmps.getD 5 undef = .bool true → RB = true →
      bodyPost Tryz.prog Tryz.f74 PO .ret { tmps := tmps, defers := [] } (put7 W b4 (S m) (S pa) (S qa) (.int .i64 (v : Int)) V (.string ⟨#[]⟩) (.bool c))) := Lib.hid fun W V c b13 tmps hr hB hO hb13 hc h4 h5 ho => by
    refine bodyPost_ret (req_end rfl _ _ b4 _ h4 (put7_row hr _ _ _ _ _ _ _) rfl) rfl ?_
    rw [HPS.out, ho, if_pos rfl]
    refine ⟨put7_below hB (Nat.le_of_eq hb4.symm) _ _ _ _ _ _ _, V, by rw [h5, HRF.out, hc]; rfl, own_weak (own_put7 hO (by omega) _ _ _ _ _ _ _) (by omega)⟩
  clear hr2 hB2 hS hls hfew hlf htf hdp hdt htg hl0 hN
  go_enter Tryz.func74, Tryz.ntmps74
  go_wp2_with fail
  rw [← hW2', ← hb4]
  clear hW2' hW2 hb4
  refine (HDP.out W2).mono ?_
  rintro e W3 ⟨rfl, hB⟩
  have H3 : Hid (Row W3 b4 zeroR 27 ∧ Below w.heap.size w W3 ∧ Strs W3 LV ls ad) := Lib.hid ⟨H2.out.1.below hB H2.out.1.lt, H2.out.2.1.trans (hB.mono H2.out.2.1.size), H2.out.2.2.below hB⟩
  clear hB H2
  go_wp2_with fail
  refine (HDT.out W3).mono ?_
  rintro e W5 ⟨rfl, hB⟩
  have H5 : Hid (Row W5 b4 zeroR 27 ∧ Below w.heap.size w W5 ∧ Strs W5 LV ls ad) := Lib.hid ⟨H3.out.1.below hB H3.out.1.lt, H3.out.2.1.trans (hB.mono H3.out.2.1.size), H3.out.2.2.below hB⟩
  clear hB H3 HDP HDT
  cases ok1 with
  | false =>
    have HRB : Hid (RB = false) := Lib.hid (by rw [HQ.out]; rfl)
    have hr2 := H5.out.1
    have d0 : W5.cell? ⟨b4, 0, none⟩ = some (.string ⟨#[]⟩) := cell_of_row W5 _ 0 _ 27 (0, 0) hr2
    have df0 : W5.frozen? ⟨b4, 0, none⟩ = false := Row.frozen hr2 0
    have d1 : W5.cell? ⟨b4, 1, none⟩ = some (.string ⟨#[]⟩) := cell_of_row W5 _ 1 _ 27 (0, 0) hr2
    have df1 : W5.frozen? ⟨b4, 1, none⟩ = false := Row.frozen hr2 1
    have d2 : W5.cell? ⟨b4, 2, none⟩ = some (.string ⟨#[]⟩) := cell_of_row W5 _ 2 _ 27 (0, 0) hr2
    have df2 : W5.frozen? ⟨b4, 2, none⟩ = false := Row.frozen hr2 2
    have d3 : W5.cell? ⟨b4, 3, none⟩ = some (.int .i64 0) := cell_of_row W5 _ 3 _ 27 (0, 0) hr2
    have df3 : W5.frozen? ⟨b4, 3, none⟩ = false := Row.frozen hr2 3
    have d4 : W5.cell? ⟨b4, 4, none⟩ = some (.slice none 0 0) := cell_of_row W5 _ 4 _ 27 (0, 0) hr2
    have df4 : W5.frozen? ⟨b4, 4, none⟩ = false := Row.frozen hr2 4
    have d5 : W5.cell? ⟨b4, 5, none⟩ = some (.string ⟨#[]⟩) := cell_of_row W5 _ 5 _ 27 (0, 0) hr2
    have df5 : W5.frozen? ⟨b4, 5, none⟩ = false := Row.frozen hr2 5
    have d6 : W5.cell? ⟨b4, 6, none⟩ = some (.bool false) := cell_of_row W5 _ 6 _ 27 (0, 0) hr2
    have df6 : W5.frozen? ⟨b4, 6, none⟩ = false := Row.frozen hr2 6
    clear hr2
    go_wp2
    exact hbad.out W5 _ H5.out.1 H5.out.2.1 rfl rfl HRB.out
  | true =>
  cases ok2 with
  | false =>
    have HRB : Hid (RB = false) := Lib.hid (by rw [HQ.out]; rfl)
    have hr2 := H5.out.1
    have d0 : W5.cell? ⟨b4, 0, none⟩ = some (.string ⟨#[]⟩) := cell_of_row W5 _ 0 _ 27 (0, 0) hr2
    have df0 : W5.frozen? ⟨b4, 0, none⟩ = false := Row.frozen hr2 0
    have d1 : W5.cell? ⟨b4, 1, none⟩ = some (.string ⟨#[]⟩) := cell_of_row W5 _ 1 _ 27 (0, 0) hr2
    have df1 : W5.frozen? ⟨b4, 1, none⟩ = false := Row.frozen hr2 1
    have d2 : W5.cell? ⟨b4, 2, none⟩ = some (.string ⟨#[]⟩) := cell_of_row W5 _ 2 _ 27 (0, 0) hr2
    have df2 : W5.frozen? ⟨b4, 2, none⟩ = false := Row.frozen hr2 2
    have d3 : W5.cell? ⟨b4, 3, none⟩ = some (.int .i64 0) := cell_of_row W5 _ 3 _ 27 (0, 0) hr2
    have df3 : W5.frozen? ⟨b4, 3, none⟩ = false := Row.frozen hr2 3
    have d4 : W5.cell? ⟨b4, 4, none⟩ = some (.slice none 0 0) := cell_of_row W5 _ 4 _ 27 (0, 0) hr2
    have df4 : W5.frozen? ⟨b4, 4, none⟩ = false := Row.frozen hr2 4
    have d5 : W5.cell? ⟨b4, 5, none⟩ = some (.string ⟨#[]⟩) := cell_of_row W5 _ 5 _ 27 (0, 0) hr2
    have df5 : W5.frozen? ⟨b4, 5, none⟩ = false := Row.frozen hr2 5
    have d6 : W5.cell? ⟨b4, 6, none⟩ = some (.bool false) := cell_of_row W5 _ 6 _ 27 (0, 0) hr2
    have df6 : W5.frozen? ⟨b4, 6, none⟩ = false := Row.frozen hr2 6
    clear hr2
    go_wp2
    exact hbad.out W5 _ H5.out.1 H5.out.2.1 rfl rfl HRB.out
  | true =>
  have HQ2 : Hid (RB = ls.all fun l => (parseF l).2.2) := Lib.hid (by rw [HQ.out]; rfl)
  clear HQ
  obtain ⟨b13, hb13⟩ : ∃ b, b = W5.heap.size := ⟨_, rfl⟩
  obtain ⟨W6, hW6⟩ : ∃ W, W = W5.alloc (.cells (rqCells m pa qa v (.slice none 0 0) [] false) 27) := ⟨_, rfl⟩
  have hW6' : W6 = W5.alloc (.cells #[S m, S pa, S qa, .int .i64 (v : Int), .slice none 0 0, .string ⟨#[]⟩, .bool false] 27) := hW6
  have H6 : Hid (HdS W5 b13 (b13 + 1) m pa qa v [] false W6 ∧ W5.heap.size ≤ b13 ∧ w.heap.size < b13) := Lib.hid ⟨⟨⟨.slice none 0 0, by rw [hW6, hb13]; exact row_new _ _ _, World.ownsRow_nil _ _ _ _⟩, by rw [hW6]; exact (Below.refl _ W5).alloc (Nat.le_refl _) _, by rw [hW6, alloc_size, hb13]; exact Nat.le_refl _⟩, by omega, by have := H5.out.1.lt; have := HB4.out; omega⟩
  go_wp2
  rw [← hW6', ← hb13]
  clear hW6' hW6 hb13
  go_loopw [45] (fun iv wr => ∃ k : Nat, k ≤ N ∧ iv = .int .i64 (k : Int) ∧ Hid (HdS W5 b13 (b13 + 1) m pa qa v ((ls.take k).map pfF) false wr ∧ ((ls.take k).all fun l => (parseF l).2.2) = true)) (fun iv _ => N - (intOf iv).toNat)
  case atStart => exact ⟨0, Nat.zero_le _, rfl, Lib.hid ⟨H6.out.1, rfl⟩⟩
  case round =>
    obtain ⟨k, hk, rfl, HR⟩ := hrel
    by_cases hlt : k < N
    · have hwj : IntKind.i64.wrap ((k : Int) + 1) = (k : Int) + 1 := by rw [IntKind.wrap_i64]; omega
      have hkl : k < ls.length := by rw [← HN.out.1]; exact hlt
      obtain ⟨l, hl⟩ : ∃ l, ls[k]? = some l := ⟨ls[k], List.getElem?_eq_getElem hkl⟩
      have hix := H5.out.2.2.index k hkl
      have hlc := H5.out.2.2.cell k l hl wr HR.out.1.bel
      have hll := HN.out.2 l (List.mem_of_getElem? hl)
      have hpc := fun W => parse10_any l hll W
      have HT : Hid ((ls.take (k + 1)).map pfF = (ls.take k).map pfF ++ [pfF l] ∧ ((ls.take (k + 1)).all fun l => (parseF l).2.2) = (parseF l).2.2 ∧ ((parseF l).2.2 = false → RB = false)) := Lib.hid (by
        refine ⟨?_, ?_, fun h => ?_⟩
        · rw [List.take_add_one, hl, List.map_append]; rfl
        · rw [List.take_add_one, hl, List.all_append, HR.out.2, Bool.true_and]; simp
        · rw [HQ2.out, List.all_eq_false]; exact ⟨l, List.mem_of_getElem? hl, by rw [h]; exact Bool.false_ne_true⟩)
      obtain ⟨⟨n, u, ok⟩, hp⟩ : ∃ x, parseF l = x := ⟨_, rfl⟩
      rw [hp] at hpc
      have HT2 : Hid ((ls.take (k + 1)).map pfF = (ls.take k).map pfF ++ [(n, u)] ∧ ((ls.take (k + 1)).all fun l => (parseF l).2.2) = ok ∧ (ok = false → RB = false)) := Lib.hid (by
        have := HT.out
        unfold pfF at this ⊢
        rw [hp] at this
        exact this)
      rw [show parseV (n, u, ok) = .tuple #[.agg #[S n, S u], .bool ok] from rfl] at hpc
      have HPC := Lib.hid hpc
      clear HT hp hl hkl hpc hll
      obtain ⟨ak, hak⟩ : ∃ a, a = ad k := ⟨_, rfl⟩
      rw [← hak] at hix hlc
      clear hak
      go_wp2_with fail
      refine (HPC.out wr).mono ?_
      rintro e W7 ⟨rfl, hB⟩
      have H7 := Lib.hid (HR.out.1.below hB)
      clear hB hix hlc HPC
      cases ok with
      | false =>
        have HRB : Hid (RB = false) := Lib.hid (HT2.out.2.2 rfl)
        have HBW : Hid (Below W5.heap.size W5 (W7.alloc (.cells #[S n, S u] 47))) := Lib.hid (H7.out.bel.alloc H7.out.bel.size _)
        have hr2 := (H5.out.1.below HBW.out H5.out.1.lt)
        have d0 : (W7.alloc (.cells #[S n, S u] 47)).cell? ⟨b4, 0, none⟩ = some (.string ⟨#[]⟩) := cell_of_row (W7.alloc (.cells #[S n, S u] 47)) _ 0 _ 27 (0, 0) hr2
        have df0 : (W7.alloc (.cells #[S n, S u] 47)).frozen? ⟨b4, 0, none⟩ = false := Row.frozen hr2 0
        have d1 : (W7.alloc (.cells #[S n, S u] 47)).cell? ⟨b4, 1, none⟩ = some (.string ⟨#[]⟩) := cell_of_row (W7.alloc (.cells #[S n, S u] 47)) _ 1 _ 27 (0, 0) hr2
        have df1 : (W7.alloc (.cells #[S n, S u] 47)).frozen? ⟨b4, 1, none⟩ = false := Row.frozen hr2 1
        have d2 : (W7.alloc (.cells #[S n, S u] 47)).cell? ⟨b4, 2, none⟩ = some (.string ⟨#[]⟩) := cell_of_row (W7.alloc (.cells #[S n, S u] 47)) _ 2 _ 27 (0, 0) hr2
        have df2 : (W7.alloc (.cells #[S n, S u] 47)).frozen? ⟨b4, 2, none⟩ = false := Row.frozen hr2 2
        have d3 : (W7.alloc (.cells #[S n, S u] 47)).cell? ⟨b4, 3, none⟩ = some (.int .i64 0) := cell_of_row (W7.alloc (.cells #[S n, S u] 47)) _ 3 _ 27 (0, 0) hr2
        have df3 : (W7.alloc (.cells #[S n, S u] 47)).frozen? ⟨b4, 3, none⟩ = false := Row.frozen hr2 3
        have d4 : (W7.alloc (.cells #[S n, S u] 47)).cell? ⟨b4, 4, none⟩ = some (.slice none 0 0) := cell_of_row (W7.alloc (.cells #[S n, S u] 47)) _ 4 _ 27 (0, 0) hr2
        have df4 : (W7.alloc (.cells #[S n, S u] 47)).frozen? ⟨b4, 4, none⟩ = false := Row.frozen hr2 4
        have d5 : (W7.alloc (.cells #[S n, S u] 47)).cell? ⟨b4, 5, none⟩ = some (.string ⟨#[]⟩) := cell_of_row (W7.alloc (.cells #[S n, S u] 47)) _ 5 _ 27 (0, 0) hr2
        have df5 : (W7.alloc (.cells #[S n, S u] 47)).frozen? ⟨b4, 5, none⟩ = false := Row.frozen hr2 5
        have d6 : (W7.alloc (.cells #[S n, S u] 47)).cell? ⟨b4, 6, none⟩ = some (.bool false) := cell_of_row (W7.alloc (.cells #[S n, S u] 47)) _ 6 _ 27 (0, 0) hr2
        have df6 : (W7.alloc (.cells #[S n, S u] 47)).frozen? ⟨b4, 6, none⟩ = false := Row.frozen hr2 6
        clear hr2
        go_wp2
        exact hbad.out (W7.alloc (.cells #[S n, S u] 47)) _ (H5.out.1.below HBW.out H5.out.1.lt) (H5.out.2.1.trans (HBW.out.mono H5.out.2.1.size)) rfl rfl HRB.out
      | true =>
        obtain ⟨fs, hfs⟩ : ∃ fs, fs = (ls.take k).map pfF := ⟨_, rfl⟩
        have hfl : fs.length ≤ k := by rw [hfs, List.length_map, List.length_take]; omega
        rw [← hfs] at HT2 H7
        clear hfs
        obtain ⟨V, hr7, ho7⟩ := H7.out.ex
        have hrV : Row (W7.alloc (.cells #[S n, S u] 47)) b13 (rqCells m pa qa v V [] false) 27 := hr7.alloc _
        have hoV : (W7.alloc (.cells #[S n, S u] 47)).ownsRow (b13 + 1) 47 2 V fs.length (fcells fs) := ho7.alloc _
        have hrK : Row (W7.alloc (.cells #[S n, S u] 47)) W7.heap.size #[S n, S u] 47 := row_new W7 _ _
        have hB8 : Below W5.heap.size W5 (W7.alloc (.cells #[S n, S u] 47)) := H7.out.bel.alloc H7.out.bel.size _
        have hb8 : b13 + 1 ≤ ((W7.alloc (.cells #[S n, S u] 47))).heap.size := by rw [alloc_size]; have := H7.out.size; omega
        have c4 : ((W7.alloc (.cells #[S n, S u] 47))).cell? ⟨b13, 4, none⟩ = some V := cell_of_row _ _ 4 _ 27 (0, 0) hrV
        have k0 : ((W7.alloc (.cells #[S n, S u] 47))).cell? ⟨W7.heap.size, 0, none⟩ = some (S n) := cell_of_row _ _ 0 _ 47 (0, 0) hrK
        have k1 : ((W7.alloc (.cells #[S n, S u] 47))).cell? ⟨W7.heap.size, 1, none⟩ = some (S u) := cell_of_row _ _ 1 _ 47 (0, 0) hrK
        have HRV := Lib.hid hrV
        have HOV := Lib.hid hoV
        have HB8 := Lib.hid hB8
        have HNE : Hid (some b13 ≠ V.ownBlock) := Lib.hid fun e => by have := (ho7.lt b13 e.symm).1; omega
        have hlf : fs.length < 1000000 := by omega
        have hone : ∀ x ∈ (#[S n, S u] : Array Value).toList, x.oneCell' = true := by
          intro x hx
          simp only [List.mem_cons, List.not_mem_nil, or_false] at hx
          rcases hx with rfl | rfl <;> rfl
        clear hrV hrK hoV hr7 ho7 hB8
        go_wp2_with (at_builtin; refine wpList_addK rfl 25 47 (.tmp 58) (.tmp 60) rfl Tryz.underlying25 eleF (by omega) (b13 + 1) (W7.alloc (.cells #[S n, S u] 47)) V rfl fs.length (fcells fs) HOV.out #[S n, S u] rfl hone rfl (W7.heap.size + 1) (alloc_size W7 _) rfl hlf hb8 ?_; intro gg cap W9 o2 g2; have c49 : W9.cell? ⟨b13, 4, none⟩ = some V := cell_of_row _ _ 4 _ 27 (0, 0) (row_grown HRV.out g2 HNE.out); have f49 : W9.frozen? ⟨b13, 4, none⟩ = false := Row.frozen (row_grown HRV.out g2 HNE.out) 4; have HO2 := Lib.hid o2; have HG2 := Lib.hid g2; clear o2 g2)
        have H10 : Hid (HdS W5 b13 (b13 + 1) m pa qa v (fs ++ [(n, u)]) false (W9.setCell ⟨b13, 4, none⟩ (.slice (some ⟨gg, 0, none⟩) (fs.length + 1) cap))) := Lib.hid (hds_grow HRV.out HOV.out HB8.out hb8 (by omega) H6.out.2.1 HO2.out HG2.out)
        exact ⟨⟨k + 1, by omega, by go_num, Lib.hid ⟨by rw [HT2.out.1]; exact H10.out, HT2.out.2.1⟩⟩, by simp [intOf]; omega⟩
    · obtain rfl : k = N := by omega
      have HA : Hid (HdS W5 b13 (b13 + 1) m pa qa v (ls.map pfF) false wr ∧ RB = true) := Lib.hid (by
        have h := HR.out
        rw [HN.out.1, List.take_length] at h
        exact ⟨h.1, HQ2.out.trans h.2⟩)
      have HSH : Hid (Short (ls.map pfF)) := Lib.hid (pf_short HN.out.2 (by rw [← HN.out.1]; omega))
      obtain ⟨V, hr, ho⟩ := HA.out.1.ex
      obtain ⟨gf, hfa, _⟩ := flds_at ho
      obtain ⟨aV, cV, hVf⟩ := hfa.form
      rw [List.length_map, ← HN.out.1] at hVf
      subst hVf
      have hcl := closes_any m pa qa v (.slice aV k cV) [] false (ls.map pfF) gf HSH.out wr hfa
      unfold rqCells at hcl
      have HCL := Lib.hid hcl
      have hrr : Row wr b13 #[S m, S pa, S qa, .int .i64 (v : Int), .slice aV k cV, .string ⟨#[]⟩, .bool false] 27 := hr
      have c0 : wr.cell? ⟨b13, 0, none⟩ = some (S m) := cell_of_row wr _ 0 _ 27 (0, 0) hrr
      have c1 : wr.cell? ⟨b13, 1, none⟩ = some (S pa) := cell_of_row wr _ 1 _ 27 (0, 0) hrr
      have c2 : wr.cell? ⟨b13, 2, none⟩ = some (S qa) := cell_of_row wr _ 2 _ 27 (0, 0) hrr
      have c3 : wr.cell? ⟨b13, 3, none⟩ = some (.int .i64 (v : Int)) := cell_of_row wr _ 3 _ 27 (0, 0) hrr
      have c4 : wr.cell? ⟨b13, 4, none⟩ = some (.slice aV k cV) := cell_of_row wr _ 4 _ 27 (0, 0) hrr
      have c5 : wr.cell? ⟨b13, 5, none⟩ = some (.string ⟨#[]⟩) := cell_of_row wr _ 5 _ 27 (0, 0) hrr
      have c6 : wr.cell? ⟨b13, 6, none⟩ = some (.bool false) := cell_of_row wr _ 6 _ 27 (0, 0) hrr
      have HO := Lib.hid (And.intro hrr ho)
      clear hcl hfa hr ho hrr
      obtain ⟨cv, hcv⟩ : ∃ c, c = (anyC (ls.map pfF) || v == 10) := ⟨_, rfl⟩
      rw [← hcv] at HCL
      have HCV := Lib.hid hcv
      clear hcv
      go_wp2_with fail
      clear c0 c1 c2 c3 c4 c5 c6
      refine HCL.out.mono ?_
      rintro e W8 ⟨rfl, hB⟩
      have hr8 := HO.out.1.below hB HO.out.1.lt
      have ho8 := own_below HO.out.2 hB
      have c6 : W8.cell? ⟨b13, 6, none⟩ = some (.bool false) := cell_of_row W8 _ 6 _ 27 (0, 0) hr8
      have f6 : W8.frozen? ⟨b13, 6, none⟩ = false := Row.frozen hr8 6
      have hrow9 : Row (W8.setCell ⟨b13, 6, none⟩ (.bool cv)) b13 #[S m, S pa, S qa, .int .i64 (v : Int), .slice aV k cV, .string ⟨#[]⟩, .bool cv] 27 := hr8.set 6 (.bool cv)
      have ho9 : (W8.setCell ⟨b13, 6, none⟩ (.bool cv)).ownsRow (b13 + 1) 47 2 (.slice aV k cV) (ls.map pfF).length (fcells (ls.map pfF)) := row_own_set ho8 (by omega)
      have hB9 : Below W5.heap.size W5 (W8.setCell ⟨b13, 6, none⟩ (.bool cv)) := (HA.out.1.bel.trans (hB.mono HA.out.1.bel.size)).setCell (p := ⟨b13, 6, none⟩) H6.out.2.1 _
      have hr4 : Row (W8.setCell ⟨b13, 6, none⟩ (.bool cv)) b4 zeroR 27 := H5.out.1.below hB9 H5.out.1.lt
      have k0 : (W8.setCell ⟨b13, 6, none⟩ (.bool cv)).cell? ⟨b13, 0, none⟩ = some (S m) := cell_of_row (W8.setCell ⟨b13, 6, none⟩ (.bool cv)) _ 0 _ 27 (0, 0) hrow9
      have k1 : (W8.setCell ⟨b13, 6, none⟩ (.bool cv)).cell? ⟨b13, 1, none⟩ = some (S pa) := cell_of_row (W8.setCell ⟨b13, 6, none⟩ (.bool cv)) _ 1 _ 27 (0, 0) hrow9
      have k2 : (W8.setCell ⟨b13, 6, none⟩ (.bool cv)).cell? ⟨b13, 2, none⟩ = some (S qa) := cell_of_row (W8.setCell ⟨b13, 6, none⟩ (.bool cv)) _ 2 _ 27 (0, 0) hrow9
      have k3 : (W8.setCell ⟨b13, 6, none⟩ (.bool cv)).cell? ⟨b13, 3, none⟩ = some (.int .i64 (v : Int)) := cell_of_row (W8.setCell ⟨b13, 6, none⟩ (.bool cv)) _ 3 _ 27 (0, 0) hrow9
      have k4 : (W8.setCell ⟨b13, 6, none⟩ (.bool cv)).cell? ⟨b13, 4, none⟩ = some (.slice aV k cV) := cell_of_row (W8.setCell ⟨b13, 6, none⟩ (.bool cv)) _ 4 _ 27 (0, 0) hrow9
      have k5 : (W8.setCell ⟨b13, 6, none⟩ (.bool cv)).cell? ⟨b13, 5, none⟩ = some (.string ⟨#[]⟩) := cell_of_row (W8.setCell ⟨b13, 6, none⟩ (.bool cv)) _ 5 _ 27 (0, 0) hrow9
      have k6 : (W8.setCell ⟨b13, 6, none⟩ (.bool cv)).cell? ⟨b13, 6, none⟩ = some (.bool cv) := cell_of_row (W8.setCell ⟨b13, 6, none⟩ (.bool cv)) _ 6 _ 27 (0, 0) hrow9
      have d0 : (W8.setCell ⟨b13, 6, none⟩ (.bool cv)).cell? ⟨b4, 0, none⟩ = some (.string ⟨#[]⟩) := cell_of_row (W8.setCell ⟨b13, 6, none⟩ (.bool cv)) _ 0 _ 27 (0, 0) hr4
      have df0 : (W8.setCell ⟨b13, 6, none⟩ (.bool cv)).frozen? ⟨b4, 0, none⟩ = false := Row.frozen hr4 0
      have d1 : (W8.setCell ⟨b13, 6, none⟩ (.bool cv)).cell? ⟨b4, 1, none⟩ = some (.string ⟨#[]⟩) := cell_of_row (W8.setCell ⟨b13, 6, none⟩ (.bool cv)) _ 1 _ 27 (0, 0) hr4
      have df1 : (W8.setCell ⟨b13, 6, none⟩ (.bool cv)).frozen? ⟨b4, 1, none⟩ = false := Row.frozen hr4 1
      have d2 : (W8.setCell ⟨b13, 6, none⟩ (.bool cv)).cell? ⟨b4, 2, none⟩ = some (.string ⟨#[]⟩) := cell_of_row (W8.setCell ⟨b13, 6, none⟩ (.bool cv)) _ 2 _ 27 (0, 0) hr4
      have df2 : (W8.setCell ⟨b13, 6, none⟩ (.bool cv)).frozen? ⟨b4, 2, none⟩ = false := Row.frozen hr4 2
      have d3 : (W8.setCell ⟨b13, 6, none⟩ (.bool cv)).cell? ⟨b4, 3, none⟩ = some (.int .i64 0) := cell_of_row (W8.setCell ⟨b13, 6, none⟩ (.bool cv)) _ 3 _ 27 (0, 0) hr4
      have df3 : (W8.setCell ⟨b13, 6, none⟩ (.bool cv)).frozen? ⟨b4, 3, none⟩ = false := Row.frozen hr4 3
      have d4 : (W8.setCell ⟨b13, 6, none⟩ (.bool cv)).cell? ⟨b4, 4, none⟩ = some (.slice none 0 0) := cell_of_row (W8.setCell ⟨b13, 6, none⟩ (.bool cv)) _ 4 _ 27 (0, 0) hr4
      have df4 : (W8.setCell ⟨b13, 6, none⟩ (.bool cv)).frozen? ⟨b4, 4, none⟩ = false := Row.frozen hr4 4
      have d5 : (W8.setCell ⟨b13, 6, none⟩ (.bool cv)).cell? ⟨b4, 5, none⟩ = some (.string ⟨#[]⟩) := cell_of_row (W8.setCell ⟨b13, 6, none⟩ (.bool cv)) _ 5 _ 27 (0, 0) hr4
      have df5 : (W8.setCell ⟨b13, 6, none⟩ (.bool cv)).frozen? ⟨b4, 5, none⟩ = false := Row.frozen hr4 5
      have d6 : (W8.setCell ⟨b13, 6, none⟩ (.bool cv)).cell? ⟨b4, 6, none⟩ = some (.bool false) := cell_of_row (W8.setCell ⟨b13, 6, none⟩ (.bool cv)) _ 6 _ 27 (0, 0) hr4
      have df6 : (W8.setCell ⟨b13, 6, none⟩ (.bool cv)).frozen? ⟨b4, 6, none⟩ = false := Row.frozen hr4 6
      have H9 := Lib.hid (And.intro hr4 (And.intro hB9 ho9))
      clear hr8 ho8 hB hrow9 ho9 hB9 hr4
      go_wp2
      exact hgood.out _ _ cv b13 _ H9.out.1 (H5.out.2.1.trans (H9.out.2.1.mono H5.out.2.1.size)) H9.out.2.2 H6.out.2.2 HCV.out rfl rfl HA.out.2
end Go.Proofs.YtplajlccnnbifaaGreatDoor
