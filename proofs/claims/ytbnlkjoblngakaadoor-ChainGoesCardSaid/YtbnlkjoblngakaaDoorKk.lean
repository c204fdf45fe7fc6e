/- What steps around ChainStays' handler answer (stage 13). -/
import Derived.Test.YtbnlkjoblngakaaDoorKj
namespace Go.Proofs.YtbnlkjoblngakaaDoor
open Go.RowKit Go.Shelf

def stayA (c : Int) (body : Tx) (xs : Fds) (r : Rq) (l : List Stp) : Int × Tx × Fds := match (goS r.fs r.body l r.p).2.2 with
  | some x => ((x.1 : Int), x.2, addsS r.fs (l.take (goS r.fs r.body l r.p).1))
  | none => (c, body, xs ++ addsS r.fs l)
def AnsI (a : Int × Tx × Fds) (W : World) (e : Ending) (w' : World) : Prop := ∃ V', e = .returned (rpV a.1 V' a.2.1) ∧ FO W.heap.size V' a.2.2 w' ∧ Below W.heap.size W w'
theorem cnt_le (l : List Stp) : cntS l ≤ l.length := List.length_filter_le _ _
theorem stayA_few (c : Int) (body : Tx) (xs : Fds) (r : Rq) (l : List Stp) : (stayA c body xs r l).2.2.length ≤ xs.length + l.length := by
  unfold stayA
  have h1 := cnt_le l
  split
  · have h2 := cnt_take l (goS r.fs r.body l r.p).1
    show (addsS r.fs (l.take _)).length ≤ _
    rw [adds_len]; omega
  · show (xs ++ addsS r.fs l).length ≤ _
    rw [List.length_append, adds_len]; omega
theorem FO.own_lo {base : Nat} {V : Value} {fs : Fds} {w : World} (h : FO base V fs w) {k : Nat} (hk : V.ownBlock = some k) : base ≤ k ∧ k < w.heap.size := by
  unfold FO at h
  rcases h.2 with ⟨h0, _⟩ | ⟨g, cap, cur, h1, h2, h3, h4⟩
  · rw [h0] at hk; cases hk
  · rw [h1] at hk; injection hk with hk; subst hk; exact ⟨h2, (Array.getElem?_eq_some_iff.1 h3).1⟩
theorem stays_does {wk w' : World} {g : Nat} {lb : Array Value} {l : List Stp} {bx : Nat} (h : DoesH wk w' g lb l 21 #[.pointer (some ⟨bx, 0, none⟩)]) {W : World} (hs : w'.heap.size ≤ W.heap.size)
    (hk : ∀ k, wk.heap.size ≤ k → k < w'.heap.size → W.heap[k]? = w'.heap[k]?) (r : Rq) (V : Value) (b o : Nat) (hA : FA W V r.fs b o) (hr : SmallR r)
    (c : Int) (ax : Option Addr) (nx cx : Nat) (body : Tx) (xs : Fds) (b0 o0 : Nat) (hX : FA W (.slice ax nx cx) xs b0 o0) (hl : xs.length ≤ 10) (hrow : Row W bx (rpC c (.slice ax nx cx) body) 27) :
    Calls Tryd.prog g (#[rqV r V] ++ lb) W (AnsI (stayA c body xs r l) W) := by
  refine h W hs hk r V b o hA hr _ ?_
  unfold stayA
  cases hg : (goS r.fs r.body l r.p).2.2 with
  | some x => exact fun W' V' hB hF => ⟨V', rfl, hF, hB⟩
  | none =>
    intro N W1 V1 hB hN hF1
    refine (turn_any { r with p := (goS r.fs r.body l r.p).2.1 } V1 W.heap.size bx c ax nx cx body W1 hF1 hr.few (hrow.below hB hrow.lt) hrow.lt).mono ?_
    rintro e W2 ⟨rfl, hR⟩
    have hB2 : Below W.heap.size W1 W2 := hR.below (fun k hk e => by have := (hF1.own_lo e).1; omega) hB.size
    have hB3 : Below W.heap.size W W2 := hB.trans hB2
    refine ⟨c, .slice ax nx cx, xs, body, b0, o0, rfl, hX.below hB3, by omega, ?_, hR.size, fun k hk' => ?_, fun W3 V3 hR3 hF => ?_⟩
    · by_cases he : xs = []
      · exact .inl he
      · exact .inr fun hn => by have := (hN _ hn).1; have := hX.lt he; omega
    · rcases hk' with h1 | h1 | h1
      · exact hR.rest k (hN k h1).2.1 (hN k h1).2.2
      · exact hR.rest k (by have := hB.size; omega) (fun e => by have := (hF1.own_lo e).1; omega)
      · have := hA.lt h1.1
        exact hR.rest k (by have := hB.size; omega) (fun e => by have := (hF1.own_lo e).1; omega)
    · exact ⟨V3, rfl, hF, hB3.trans (hR3.below (fun k hk h1 => by have := (hN k h1).1; omega) hB3.size)⟩
/-- All that ChainStays has at hand. -/
structure StayAt (w : World) (b1 : Nat) (r : Rq) (Vr : Value) (b o : Nat) (c : Int) (ax : Option Addr) (nx cx : Nat) (body : Tx) (xs : Fds) (b0 o0 : Nat) (V : Value) (l : List Stp) (bs os : Nat) (W : World) : Prop where
  rq : RqAt w b1 r Vr b o W
  row : Row W (b1 + 1) (rpC c (.slice ax nx cx) body) 27
  fx : FA W (.slice ax nx cx) xs b0 o0
  st : StA W V l bs os
theorem StayAt.below {w : World} {b1 : Nat} {r : Rq} {Vr : Value} {b o : Nat} {c : Int} {ax : Option Addr} {nx cx : Nat} {body : Tx} {xs : Fds} {b0 o0 : Nat} {V : Value} {l : List Stp} {bs os : Nat} {W W' : World}
    (h : StayAt w b1 r Vr b o c ax nx cx body xs b0 o0 V l bs os W) (hb : Below W.heap.size W W') : StayAt w b1 r Vr b o c ax nx cx body xs b0 o0 V l bs os W' :=
  ⟨h.rq.below hb, h.row.below hb h.row.lt, h.fx.below hb, h.st.below hb⟩
end Go.Proofs.YtbnlkjoblngakaaDoor
