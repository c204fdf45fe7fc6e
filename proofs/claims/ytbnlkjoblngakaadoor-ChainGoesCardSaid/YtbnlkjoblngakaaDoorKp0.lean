/- The landed package of chains: what stands around a handler, said so that steps can be put around it one by one. -/
import Derived.Test.YtbnlkjoblngakaaDoorKa
namespace Go.Proofs.YtbnlkjoblngakaaDoor
open Go.RowKit

/-- As AskedAt, but that the reply's fields lie behind all that the handler made. -/
def AskedB (K : Nat → Prop) (gh : Nat) (lbh : Array Value) (W : World) (r : Rq) (p : Tx) (b : Nat) (l : List Stp) (Q : Ending → World → Prop) : Prop :=
  ∀ (N : Nat → Prop) (W1 : World) (V1 : Value), Below W.heap.size W W1 → (∀ k, N k → W.heap.size ≤ k ∧ k < W1.heap.size ∧ V1.ownBlock ≠ some k) → FO W.heap.size V1 r.fs W1 →
    Calls Tryd.prog gh (#[rqV { r with p := p } V1] ++ lbh) W1 fun e W2 => ∃ code Vx fx body bx ox, e = .returned (rpV code Vx body) ∧ FA W2 Vx fx bx ox ∧ fx.length ≤ 1000 ∧
      (fx = [] ∨ ¬ N bx) ∧ W1.heap.size ≤ W2.heap.size ∧ (∀ k, N k ∨ K k ∨ (r.fs ≠ [] ∧ k = b) → W2.heap[k]? = W1.heap[k]?) ∧
      ∀ W3 V3, Rest N W2 W3 → FO W2.heap.size V3 (fx ++ addsS r.fs l) W3 → Q (.returned (rpV code V3 body)) W3
theorem FO.weak {b b' : Nat} {V : Value} {fs : Fds} {w : World} (h : FO b V fs w) (hb : b' ≤ b) : FO b' V fs w := own_weak h hb
theorem AskedB.of {K : Nat → Prop} {wk w' : World} {gh : Nat} {lbh : Array Value} {W : World} {r : Rq} {p : Tx} {b : Nat} {l : List Stp} {Q : Ending → World → Prop} (h : AskedAt wk w' gh lbh W r p b l Q) (hK : ∀ k, K k → wk.heap.size ≤ k ∧ k < w'.heap.size) : AskedB K gh lbh W r p b l Q := by
  intro N W1 V1 hB hN hF
  refine (h N W1 V1 hB hN hF).mono ?_
  rintro e W2 ⟨code, Vx, fx, body, bx, ox, h1, h2, h3, h4, h5, h6, h7⟩
  exact ⟨code, Vx, fx, body, bx, ox, h1, h2, h3, h4, h5, fun k hk => h6 k (hk.imp id (Or.imp (hK k) id)), fun W3 V3 hR hF => h7 W3 V3 hR (hF.weak (Nat.le_trans hB.size h5))⟩
theorem AskedB.grow {K K' : Nat → Prop} {gh : Nat} {lbh : Array Value} {W : World} {r : Rq} {p : Tx} {b : Nat} {l : List Stp} {Q : Ending → World → Prop} (h : AskedB K' gh lbh W r p b l Q) (hK : ∀ k, K k → K' k) : AskedB K gh lbh W r p b l Q := by
  intro N W1 V1 hB hN hF
  refine (h N W1 V1 hB hN hF).mono ?_
  rintro e W2 ⟨code, Vx, fx, body, bx, ox, h1, h2, h3, h4, h5, h6, h7⟩
  exact ⟨code, Vx, fx, body, bx, ox, h1, h2, h3, h4, h5, fun k hk => h6 k (hk.imp id (Or.imp (hK k) id)), h7⟩
/-- What a request comes to, behind steps. -/
def GoneB (K : Nat → Prop) (gh : Nat) (lbh : Array Value) (W : World) (r : Rq) (p : Tx) (b : Nat) (l : List Stp) (Q : Ending → World → Prop) : Prop :=
  match (goS r.fs r.body l p).2.2 with
  | some x => ∀ W' V', Below W.heap.size W W' → FO W.heap.size V' (addsS r.fs (l.take (goS r.fs r.body l p).1)) W' → Q (.returned (rpV (x.1 : Int) V' x.2)) W'
  | none => AskedB K gh lbh W r (goS r.fs r.body l p).2.1 b l Q
/-- As DoesH. -/
def DoesB (K : Nat → Prop) (w' : World) (g : Nat) (lb : Array Value) (l : List Stp) (gh : Nat) (lbh : Array Value) : Prop :=
  ∀ (W : World), w'.heap.size ≤ W.heap.size → (∀ k, K k → W.heap[k]? = w'.heap[k]?) →
  ∀ (r : Rq) (V : Value) (b o : Nat), FA W V r.fs b o → SmallR r → ∀ (Q : Ending → World → Prop), GoneB K gh lbh W r r.p b l Q → Calls Tryd.prog g (#[rqV r V] ++ lb) W Q
theorem DoesB.does {K : Nat → Prop} {wk w' : World} {g : Nat} {lb : Array Value} {l : List Stp} {gh : Nat} {lbh : Array Value} (h : DoesB K w' g lb l gh lbh) (hK : ∀ k, K k → wk.heap.size ≤ k ∧ k < w'.heap.size) : DoesH wk w' g lb l gh lbh := by
  intro W hs hk r V b o hA hr Q hQ
  refine h W hs (fun k h1 => hk k (hK k h1).1 (hK k h1).2) r V b o hA hr Q ?_
  unfold GoneB
  split
  · rename_i x hx
    rw [hx] at hQ
    exact hQ
  · rename_i hx
    rw [hx] at hQ
    exact AskedB.of hQ hK
theorem DoesB.grow {K K' : Nat → Prop} {w1 w2 : World} {g : Nat} {lb : Array Value} {l : List Stp} {gh : Nat} {lbh : Array Value} (h : DoesB K w1 g lb l gh lbh) (hs1 : w1.heap.size ≤ w2.heap.size) (hb : ∀ k, K k → w2.heap[k]? = w1.heap[k]?) (hK : ∀ k, K k → K' k) : DoesB K' w2 g lb l gh lbh := by
  intro W hs hk r V b o hA hr Q hQ
  refine h W (Nat.le_trans hs1 hs) (fun k h1 => (hk k (hK k h1)).trans (hb k h1)) r V b o hA hr Q ?_
  unfold GoneB at hQ ⊢
  split
  · rename_i x hx
    rw [hx] at hQ
    exact hQ
  · rename_i hx
    rw [hx] at hQ
    exact AskedB.grow hQ hK
/-- What comes back to a step that asked the next one in the world Wc. -/
def BackB (K : Nat → Prop) (W Wc : World) (fx : Fds) (Q : Ending → World → Prop) (e : Ending) (W3 : World) : Prop :=
  ∃ (B : Nat) (c : Int) (V3 : Value) (fs : Fds) (body : Tx), e = .returned (rpV c V3 body) ∧ Wc.heap.size ≤ B ∧ B ≤ W3.heap.size ∧ FO B V3 fs W3 ∧ fs.length ≤ 10000 ∧
    (∀ k, K k ∨ (W.heap.size ≤ k ∧ k < Wc.heap.size) → W3.heap[k]? = Wc.heap[k]?) ∧
    ∀ W4 V4, Rest (fun k => B ≤ k ∨ (W.heap.size ≤ k ∧ k < Wc.heap.size)) W3 W4 → FO B V4 (fs ++ fx) W4 → Q (.returned (rpV c V4 body)) W4
theorem adds_le (fs : Fds) : ∀ (l : List Stp), (addsS fs l).length ≤ l.length
  | [] => Nat.le_refl _
  | s :: l => by
    have := adds_le fs l
    rw [adds_cons, List.length_append, List.length_cons]
    have h1 : (addS fs s).length ≤ 1 := by unfold addS; split; · simp
                                           split <;> simp
    omega
/-- A step that lets a request by asks the next one. -/
theorem back_of {K1 K2 : Nat → Prop} {W Wc : World} {gh : Nat} {lbh : Array Value} {r : Rq} {q : Tx} {b : Nat} {s : Stp} {l : List Stp} {Q : Ending → World → Prop}
    (hS : stepS r.fs r.body s r.p = .inl q) (hQ : GoneB K2 gh lbh W r r.p b (s :: l) Q) (hC : Below W.heap.size W Wc) (h12 : ∀ k, K1 k → K2 k) (h2W : ∀ k, K2 k → k < W.heap.size)
    (hl : l.length ≤ 100) : GoneB K1 gh lbh Wc { r with p := q } q b l (BackB K2 W Wc (addS r.fs s) Q) := by
  have hgo : goS r.fs r.body (s :: l) r.p = ((goS r.fs r.body l q).1 + 1, (goS r.fs r.body l q).2) := by rw [goS, hS]
  unfold GoneB at hQ ⊢
  rw [hgo] at hQ
  dsimp only at hQ ⊢
  have hal := adds_le r.fs l
  cases hx : (goS r.fs r.body l q).2.2 with
  | some x =>
    rw [hx] at hQ
    intro W3 V3 hB3 hF3
    dsimp only at hQ hF3 ⊢
    have hal2 := adds_le r.fs (l.take (goS r.fs r.body l q).1)
    rw [List.length_take] at hal2
    refine ⟨Wc.heap.size, _, _, _, _, rfl, Nat.le_refl _, hB3.size, hF3, by omega, fun k hk => hB3.block k (by have := hC.size; rcases hk with hk | hk; have := h2W k hk; omega; omega), fun W4 V4 hR hF4 => hQ W4 V4 ?_ ?_⟩
    · exact (hC.trans (hB3.mono hC.size)).trans (hR.below (fun k hk h1 => by have := hC.size; omega) (Nat.le_trans hC.size hB3.size))
    · rw [List.take_succ_cons, adds_cons]
      exact hF4.weak hC.size
  | none =>
    rw [hx] at hQ
    dsimp only at hQ ⊢
    intro N W1 V1 hB1 hN hF1
    dsimp only at hF1 ⊢
    refine (hQ (fun k => N k ∨ (W.heap.size ≤ k ∧ k < Wc.heap.size)) W1 V1 (hC.trans (hB1.mono hC.size)) (fun k hk => ?_) (hF1.weak hC.size)).mono ?_
    · rcases hk with hk | hk
      · have h1 := hN k hk; have := hC.size; exact ⟨by omega, h1.2⟩
      · refine ⟨hk.1, Nat.lt_of_lt_of_le hk.2 hB1.size, fun e => ?_⟩
        have := (World.ownsRow.lt hF1 k e).1
        omega
    · rintro e W2 ⟨code, Vx, fx, body, bx, ox, h1, h2, h3, h4, h5, h6, h7⟩
      refine ⟨code, Vx, fx, body, bx, ox, h1, h2, h3, h4.imp id (fun h hn => h (.inl hn)), h5, fun k hk => h6 k ?_, fun W3 V3 hR hF3 => ?_⟩
      · rcases hk with hk | hk | hk
        · exact .inl (.inl hk)
        · exact .inr (.inl (h12 k hk))
        · exact .inr (.inr hk)
      · have hs1 := hC.size
        have hs2 := hB1.size
        refine ⟨W2.heap.size, _, _, _, _, rfl, by omega, hR.size, hF3, by rw [List.length_append]; omega, fun k hk => ?_, fun W4 V4 hR4 hF4 => h7 W4 V4 ?_ ?_⟩
        · have hkc : k < Wc.heap.size := by rcases hk with hk | hk; have := h2W k hk; omega; omega
          have e1 : W2.heap[k]? = W1.heap[k]? := h6 k (by
            rcases hk with hk | hk
            · exact .inr (.inl hk)
            · exact .inl (.inr hk))
          rw [hR.rest k (by omega) (fun hn => by have := (hN k hn).1; omega), e1, hB1.block k hkc]
        · refine (hR.trans hR4).mono fun k hk hh => ?_
          rcases hh with hh | hh | hh
          · exact .inl hh
          · omega
          · exact .inr hh
        · rw [adds_cons, ← List.append_assoc]
          exact hF4
/-- A step that refuses a request. -/
theorem gone_no {K : Nat → Prop} {W : World} {gh : Nat} {lbh : Array Value} {r : Rq} {b : Nat} {s : Stp} {l : List Stp} {Q : Ending → World → Prop} {x : Nat × Tx}
    (hS : stepS r.fs r.body s r.p = .inr x) (hQ : GoneB K gh lbh W r r.p b (s :: l) Q) (W' : World) (hB : Below W.heap.size W W') : Q (.returned (rpV (x.1 : Int) (.slice none 0 0) x.2)) W' := by
  have hgo : goS r.fs r.body (s :: l) r.p = (0, r.p, some x) := by rw [goS, hS]
  unfold GoneB at hQ
  rw [hgo] at hQ
  exact hQ W' _ hB ⟨rfl, .inl ⟨rfl, rfl⟩⟩
end Go.Proofs.YtbnlkjoblngakaaDoor
