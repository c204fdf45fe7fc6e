/- A range over a function whose thing moves on: what it stands on turns between the rounds. Over any program. -/
import Derived.Test.YtlmolmmhkddpaaaGen6
import Derived.Test.YtlmolmmhkddpaaaMv
import Derived.RangeFuncNested
namespace Go.Proofs.Ytlmolmmhkddpaaa
open Go.RowKit

/-- The contract of an iterator that moves a thing on: it tells the things of L, in order; St: how the thing stands on the blocks F, when so much has been told. Between two rounds the blocks F are not to be turned. -/
def SeqM {α : Type} (P : Program) (n g : Nat) (lb : Array Value) (encs : α → Array Value) (L : List α) (St : List α → (Nat → Prop) → World → Prop) : Prop :=
  ∀ (l : Nat) (J Jx : List α → (Nat → Prop) → World → Prop) (W : World) (F : Nat → Prop), St [] F W →
    (∀ pre F F' W W', J pre F W → Moves F F' W W' → J pre F' W') → (∀ pre F F' W W', Jx pre F W → Moves F F' W W' → Jx pre F' W') →
    (∀ pre x F W1, pre ++ [x] <+: L → J pre F W1 → St (pre ++ [x]) F W1 → YieldAt Fence.wide (n - 1) P l (encs x) W1 fun e W' =>
      (e = .returned (.bool true) ∧ J (pre ++ [x]) F W' ∧ Kept F W1 W') ∨ (e = .returned (.bool false) ∧ Jx (pre ++ [x]) F W' ∧ Kept F W1 W')) →
    J [] F W →
    CallsIn Fence.wide n P g (#[.func (.yield l) #[] #[]] ++ lb) W fun e W' => (∃ v, e = .returned v) ∧ ∃ F', (J L F' W' ∧ St L F' W') ∨ (∃ pre, pre <+: L ∧ Jx pre F' W' ∧ St pre F' W')
/-- F, and two blocks more. -/
def with2 (F : Nat → Prop) (B : Nat) (k : Nat) : Prop := F k ∨ k = B ∨ k = B + 1
theorem Moves.with2 {F F' : Nat → Prop} {w w' : World} (h : Moves F F' w w') (B : Nat) : Moves (with2 F B) (with2 F' B) w w' :=
  ⟨h.os, h.tape, h.output, h.size, fun k hk => by
    rcases hk with hk | hk
    · exact (h.foot k hk).imp .inl id
    · exact .inl (.inr hk), fun k hk hn => h.rest k hk fun e => hn (.inl e)⟩
theorem moves_put (F : Nat → Prop) {w : World} {B l : Nat} (o : Obj) (hl : l = B ∨ l = B + 1) : Moves (with2 F B) (with2 F B) w (w.putObj l o) := by
  have hg := grownBy_putObj' w l o
  exact ⟨hg.os, hg.tape, hg.output, hg.size, fun _ hk => .inl hk, fun k hk hn => hg.block k hk fun e => hn (.inr (by have := Option.some.inj e; omega))⟩
theorem moves_alloc (F : Nat → Prop) {w : World} (o : Obj) : Moves F F w (w.alloc o) := Moves.of_below ((Below.refl _ w).alloc (Nat.le_refl _) _)
/-- How the body of a round may be left. -/
def postM {α : Type} (F : Nat → Prop) (B : Nat) (I : List α → (Nat → Prop) → World → Prop) (Ix : Code → List α → (Nat → Prop) → World → Prop) (xs : List α) (W : World) : Exit → Act → World → Prop
  | .normal, _, W' => Kept (with2 F B) W W' ∧ I xs (with2 F B) W'
  | .ret, _, W' => Kept (with2 F B) W W' ∧ Ix .ret xs (with2 F B) W'
  | .exit id, _, W' => Kept (with2 F B) W W' ∧ Ix (.exit id) xs (with2 F B) W'
  | .goto t, _, W' => Kept (with2 F B) W W' ∧ Ix (.goto t) xs (with2 F B) W'
  | .panic _, _, _ => False
  | .outgrown, _, _ => False
/-- The range's law. -/
theorem wpIn_rangeFunc_M {α : Type} {P : Program} {n : Nat} {g : Operand} {ps : Array Tmp} {assign body : Code} {Q : Exit → Act → World → Prop} {a : Act} {w : World}
    {gf : Nat} {lb : Array Value} (hg : a.eval g = .func (.func gf) #[] lb) (eg : ∀ args w, (callFunc gf args).run P w = .ok (.enter gf args) w)
    {encs : α → Array Value} {L : List α} {St : List α → (Nat → Prop) → World → Prop} (hseq : ∀ m, SeqM P m gf lb encs L St)
    (hSt : ∀ pre F W W', St pre F W → Kept F W W' → St pre F W') {F0 : Nat → Prop} (hS0 : St [] F0 w) (hF0 : ∀ k, F0 k → k < w.heap.size) (hps : ∀ x, (encs x).size = ps.size)
    (I : List α → (Nat → Prop) → World → Prop) (Ix : Code → List α → (Nat → Prop) → World → Prop)
    (hI : ∀ pre F F' W W', I pre F W → Moves F F' W W' → I pre F' W') (hIx : ∀ c pre F F' W W', Ix c pre F W → Moves F F' W W' → Ix c pre F' W') (h0 : I [] (with2 F0 w.heap.size) w)
    (hround : ∀ (l : Nat) (pre : List α) (x : α) (F : Nat → Prop) (W : World) (K : Act → World → Prop), l = w.heap.size + 1 → pre ++ [x] <+: L → I pre (with2 F w.heap.size) W → St (pre ++ [x]) F W → (¬ F w.heap.size ∧ ¬ F (w.heap.size + 1)) → w.heap.size + 2 ≤ W.heap.size →
      (∀ a' Wa, Kept (with2 F w.heap.size) W Wa → (∀ W2, Wa.grownBy W2 (some (w.heap.size + 1)) → (∃ r, W2.heap[w.heap.size + 1]? = some (.loop r)) → body.wpIn (Fence.wide.inRound l) (n - 1 - 1) P (postM F w.heap.size I Ix (pre ++ [x]) W2) a' W2) → K a' Wa) →
      assign.wpIn (Fence.wide.inRound l) (n - 1 - 1) P (Exit.then K (fun _ _ _ => False)) { tmps := (ps.zip (encs x)).foldl (fun t (p, v) => t.setIfInBounds p v) a.tmps, defers := [] } W)
    (hdone : ∀ (F : Nat → Prop) (W : World), I L (with2 F w.heap.size) W → St L F W → (¬ F w.heap.size ∧ ¬ F (w.heap.size + 1)) → W.heap[w.heap.size]? = some (.deferred (some [])) → Q .normal { a with defers := { target := .collected w.heap.size, args := #[] } :: a.defers } W)
    (hstop : ∀ (c : Code) (pre : List α) (F : Nat → Prop) (W : World), pre <+: L → Ix c pre (with2 F w.heap.size) W → St pre F W → (¬ F w.heap.size ∧ ¬ F (w.heap.size + 1)) → W.heap[w.heap.size]? = some (.deferred (some [])) → c.wpIn Fence.wide n P Q { a with defers := { target := .collected w.heap.size, args := #[] } :: a.defers } W) :
    (Code.rangeFunc g ps assign body).wpIn Fence.wide n P Q a w := by
  refine wpIn_rangeFunc ?_
  intro fn hfn
  rw [show Fence.wide.round = none from rfl]
  obtain ⟨rec, hrec⟩ : ∃ rec : LoopState → Option Code → Loop, rec = fun st pe => { state := st, pending := pe, fn, tmps := a.tmps, params := ps, assign, body, defers := w.heap.size } := ⟨_, rfl⟩
  obtain ⟨W1, hW1⟩ : ∃ W1, (w.alloc (.deferred (some []))).alloc (.loop (rec .ready none)) = W1 := ⟨_, rfl⟩
  have hs1 : W1.heap.size = w.heap.size + 2 := by rw [← hW1]; simp
  have hL1 : W1.heap[w.heap.size + 1]? = some (.loop (rec .ready none)) := by
    rw [← hW1]; have := World.alloc_heap_new (w.alloc (.deferred (some []))) (.loop (rec .ready none)); rwa [World.size_alloc] at this
  have hK1 : W1.heap[w.heap.size]? = some (.deferred (some [])) := by
    rw [← hW1]; exact (Below.heap_alloc _ _ _ (by simp)).trans (World.alloc_heap_new w _)
  have hI1 : I [] (with2 F0 w.heap.size) W1 := by rw [← hW1]; exact hI _ _ _ _ _ (hI _ _ _ _ _ h0 (moves_alloc _ _)) (moves_alloc _ _)
  have hS1 : St [] F0 W1 := by
    rw [← hW1]
    exact hSt _ _ _ _ hS0 ⟨by rw [alloc_size, alloc_size]; omega, fun r hr => by rw [Below.heap_alloc _ _ r (by have := hF0 r hr; simp; omega), Below.heap_alloc _ _ r (hF0 r hr)]⟩
  have ba : ∀ k, F0 k → k ≠ w.heap.size ∧ k ≠ w.heap.size + 1 := fun k hk => by have := hF0 k hk; omega
  -- what the law knows between two rounds: the loop's two blocks are not the thing's
  have keep : ∀ (F F' : Nat → Prop) (A A' : World) (o1 o2 : Obj), (¬ F w.heap.size ∧ ¬ F (w.heap.size + 1)) → A.heap[w.heap.size + 1]? = some o1 → A.heap[w.heap.size]? = some o2 → Moves F F' A A' →
      (¬ F' w.heap.size ∧ ¬ F' (w.heap.size + 1)) ∧ A'.heap[w.heap.size + 1]? = some o1 ∧ A'.heap[w.heap.size]? = some o2 := fun F F' A A' o1 o2 hn h1 h2 hm => by
    have l1 := (Array.getElem?_eq_some_iff.1 h1).1
    have l2 := (Array.getElem?_eq_some_iff.1 h2).1
    refine ⟨⟨fun e => ?_, fun e => ?_⟩, (hm.rest _ l1 hn.2).trans h1, (hm.rest _ l2 hn.1).trans h2⟩
    · rcases hm.foot _ e with e | e
      · exact hn.1 e
      · omega
    · rcases hm.foot _ e with e | e
      · exact hn.2 e
      · omega
  refine ⟨w.heap.size + 1, [{ target := .collected w.heap.size, args := #[] }], W1, { target := .fn (.func gf) lb, args := #[.func (.yield (w.heap.size + 1)) #[] #[]] }, W1, gf,
    #[.func (.yield (w.heap.size + 1)) #[] #[]] ++ lb, W1, ?_, ?_, fun _ _ => trivial, ?_, fun h => by simp [Fence.wide] at h, ?_⟩
  · rw [← hW1, hrec]; exact run_enterLoop_outer _ _ _ _ _
  · simp only [resolve, hg]
    simp [go_sem]
  · simp [invoke, go_sem, eg]
  · refine (hseq (n - 1) (w.heap.size + 1)
      (fun pre F W => I pre (with2 F w.heap.size) W ∧ (¬ F w.heap.size ∧ ¬ F (w.heap.size + 1)) ∧ W.heap[w.heap.size + 1]? = some (.loop (rec .ready none)) ∧ W.heap[w.heap.size]? = some (.deferred (some [])))
      (fun pre F W => ∃ c, Ix c pre (with2 F w.heap.size) W ∧ (¬ F w.heap.size ∧ ¬ F (w.heap.size + 1)) ∧ W.heap[w.heap.size + 1]? = some (.loop (rec .done (some c))) ∧ W.heap[w.heap.size]? = some (.deferred (some [])))
      W1 F0 hS1
      (fun pre F F' A A' hs hm => by
        obtain ⟨hi, hn, hl, hk⟩ := hs
        exact ⟨hI _ _ _ _ _ hi (hm.with2 _), keep F F' A A' _ _ hn hl hk hm⟩)
      (fun pre F F' A A' hs hm => by
        obtain ⟨c, hi, hn, hl, hk⟩ := hs
        exact ⟨c, hIx c _ _ _ _ _ hi (hm.with2 _), keep F F' A A' _ _ hn hl hk hm⟩)
      ?_ ⟨hI1, ⟨fun e => (ba _ e).1 rfl, fun e => (ba _ e).2 rfl⟩, hL1, hK1⟩).mono ?_
    · rintro pre x F W hpx ⟨hi, hn, hl, hk⟩ hst
      have hlt : w.heap.size + 1 < W.heap.size := (Array.getElem?_eq_some_iff.1 hl).1
      have hy := run_yield (P := P) (args := encs x) hl (by rw [hrec]; exact hps x)
      rw [hrec] at hy
      refine ⟨fn, _, assign, body, hy, roundIn_of_wpIn hfn (hround _ pre x F W _ rfl hpx hi hst hn (by omega) (fun a' Wa hka hbd => ⟨_, run_beginRound ((hka.same (w.heap.size + 1) (.inr (.inr rfl))).trans hl) (by rw [hrec]), ?_⟩))⟩
      have hla := (hka.same (w.heap.size + 1) (.inr (.inr rfl))).trans hl
      have hka2 := (hka.same w.heap.size (.inr (.inl rfl))).trans hk
      have hlta : w.heap.size + 1 < Wa.heap.size := (Array.getElem?_eq_some_iff.1 hla).1
      have hl2 : (Wa.putObj (w.heap.size + 1) (.loop { rec .ready none with state := .busy })).heap[w.heap.size + 1]? = some (.loop { rec .ready none with state := .busy }) := World.putObj_heap_same hlta
      have hk2 : (Wa.putObj (w.heap.size + 1) (.loop { rec .ready none with state := .busy })).heap[w.heap.size]? = some (.deferred (some [])) := (World.putObj_heap_other (by omega)).trans hka2
      refine wpIn_mono (hbd _ (grownBy_putObj' Wa (w.heap.size + 1) _) ⟨_, hl2⟩) ?_
      have fin : ∀ (jump : Option Code) (W3 : World), Kept (with2 F w.heap.size) (Wa.putObj (w.heap.size + 1) (.loop { rec .ready none with state := .busy })) W3 →
          (Instr.endRound (w.heap.size + 1) jump).run P W3 = .ok (.bool jump.isNone) (W3.putObj (w.heap.size + 1) (.loop (rec (if jump.isNone then .ready else .done) jump))) ∧
          (W3.putObj (w.heap.size + 1) (.loop (rec (if jump.isNone then .ready else .done) jump))).heap[w.heap.size + 1]? = some (.loop (rec (if jump.isNone then .ready else .done) jump)) ∧
          (W3.putObj (w.heap.size + 1) (.loop (rec (if jump.isNone then .ready else .done) jump))).heap[w.heap.size]? = some (.deferred (some [])) := fun jump W3 hk3 => by
        have hl3 := (hk3.same (w.heap.size + 1) (.inr (.inr rfl))).trans hl2
        have hk4 := (hk3.same w.heap.size (.inr (.inl rfl))).trans hk2
        have := run_endRound (P := P) jump hl3
        rw [hrec] at this ⊢
        exact ⟨this, World.putObj_heap_same (Array.getElem?_eq_some_iff.1 hl3).1, (World.putObj_heap_other (by omega)).trans hk4⟩
      have kp : ∀ (o3 : Obj) (W3 : World), Kept (with2 F w.heap.size) (Wa.putObj (w.heap.size + 1) (.loop { rec .ready none with state := .busy })) W3 → Kept F W (W3.putObj (w.heap.size + 1) o3) := fun o3 W3 hk3 =>
        ⟨by have := hk3.size; have := hka.size; simp at *; omega, fun r hr => by
          have hne : r ≠ w.heap.size + 1 := fun e => hn.2 (by rw [← e]; exact hr)
          rw [World.putObj_heap_other hne, hk3.same r (.inl hr), World.putObj_heap_other hne, hka.same r (.inl hr)]⟩
      have put : ∀ {pre' : List α} {W3 : World} (o3 : Obj), I pre' (with2 F w.heap.size) W3 → I pre' (with2 F w.heap.size) (W3.putObj (w.heap.size + 1) o3) := fun o3 h => hI _ _ _ _ _ h (moves_put F o3 (.inr rfl))
      have putx : ∀ {c : Code} {pre' : List α} {W3 : World} (o3 : Obj), Ix c pre' (with2 F w.heap.size) W3 → Ix c pre' (with2 F w.heap.size) (W3.putObj (w.heap.size + 1) o3) := fun o3 h => hIx _ _ _ _ _ _ h (moves_put F o3 (.inr rfl))
      rintro e a3 W3 hp
      cases e with
      | normal =>
        obtain ⟨hk3, hi3⟩ := hp
        obtain ⟨hr, hl4, hk4⟩ := fin none W3 hk3
        exact ⟨_, _, hr, .inl ⟨rfl, ⟨put _ hi3, hn, hl4, hk4⟩, kp _ _ hk3⟩⟩
      | ret =>
        obtain ⟨hk3, hi3⟩ := hp
        obtain ⟨hr, hl4, hk4⟩ := fin (some .ret) W3 hk3
        exact ⟨_, _, hr, .inr ⟨rfl, ⟨.ret, putx _ hi3, hn, hl4, hk4⟩, kp _ _ hk3⟩⟩
      | exit id =>
        obtain ⟨hk3, hi3⟩ := hp
        obtain ⟨hr, hl4, hk4⟩ := fin (some (.exit id)) W3 hk3
        exact ⟨_, _, hr, .inr ⟨rfl, ⟨.exit id, putx _ hi3, hn, hl4, hk4⟩, kp _ _ hk3⟩⟩
      | goto t =>
        obtain ⟨hk3, hi3⟩ := hp
        obtain ⟨hr, hl4, hk4⟩ := fin (some (.goto t)) W3 hk3
        exact ⟨_, _, hr, .inr ⟨rfl, ⟨.goto t, putx _ hi3, hn, hl4, hk4⟩, kp _ _ hk3⟩⟩
      | panic ch => exact hp.elim
      | outgrown => exact hp.elim
    · have stp : ∀ {pre' : List α} {F : Nat → Prop} {W3 : World} (o3 : Obj), (¬ F w.heap.size ∧ ¬ F (w.heap.size + 1)) → St pre' F W3 → St pre' F (W3.putObj (w.heap.size + 1) o3) := fun o3 hn h =>
        hSt _ _ _ _ h ⟨by simp, fun r hr => World.putObj_heap_other fun e => hn.2 (by rw [← e]; exact hr)⟩
      rintro e W2 ⟨⟨v, rfl⟩, F, (⟨⟨hi, hn, hl, hk⟩, hst⟩ | ⟨pre, hpl, ⟨c, hi, hn, hl, hk⟩, hst⟩)⟩
      · exact ⟨none, _, by have := run_endLoop (P := P) hl (by rw [hrec]; simp); rw [hrec] at this; exact this, hdone F _ (hI _ _ _ _ _ hi (moves_put F _ (.inr rfl))) (stp _ hn hst) hn ((World.putObj_heap_other (by omega)).trans hk)⟩
      · exact ⟨some c, _, by have := run_endLoop (P := P) hl (by rw [hrec]; simp); rw [hrec] at this; exact this, hstop c pre F _ hpl (hIx _ _ _ _ _ _ hi (moves_put F _ (.inr rfl))) (stp _ hn hst) hn ((World.putObj_heap_other (by omega)).trans hk)⟩
/-! Within a round. -/
/-- F, and one block more. -/
def with1 (F : Nat → Prop) (B : Nat) (k : Nat) : Prop := F k ∨ k = B
theorem Moves.with1 {F F' : Nat → Prop} {w w' : World} (h : Moves F F' w w') (B : Nat) : Moves (with1 F B) (with1 F' B) w w' :=
  ⟨h.os, h.tape, h.output, h.size, fun k hk => by
    rcases hk with hk | hk
    · exact (h.foot k hk).imp .inl id
    · exact .inl (.inr hk), fun k hk hn => h.rest k hk fun e => hn (.inl e)⟩
theorem moves_put1 (F : Nat → Prop) {w : World} {B : Nat} (o : Obj) : Moves (with1 F B) (with1 F B) w (w.putObj B o) := by
  have hg := grownBy_putObj' w B o
  exact ⟨hg.os, hg.tape, hg.output, hg.size, fun _ hk => .inl hk, fun k hk hn => hg.block k hk fun e => hn (.inr (Option.some.inj e))⟩
def postN {α : Type} (F : Nat → Prop) (B : Nat) (I : List α → (Nat → Prop) → World → Prop) (Ix : Code → List α → (Nat → Prop) → World → Prop) (xs : List α) (W : World) : Exit → Act → World → Prop
  | .normal, _, W' => Kept (with1 F B) W W' ∧ I xs (with1 F B) W'
  | .ret, _, W' => Kept (with1 F B) W W' ∧ Ix .ret xs (with1 F B) W'
  | .exit id, _, W' => Kept (with1 F B) W W' ∧ Ix (.exit id) xs (with1 F B) W'
  | .goto t, _, W' => Kept (with1 F B) W W' ∧ Ix (.goto t) xs (with1 F B) W'
  | .panic _, _, _ => False
  | .outgrown, _, _ => False
/-- The range's law, within a round. -/
theorem wpIn_rangeFunc_MN {l₀ : Nat} {r₀ : Loop} {α : Type} {P : Program} {n : Nat} {g : Operand} {ps : Array Tmp} {assign body : Code} {Q : Exit → Act → World → Prop} {a : Act} {w : World}
    {gf : Nat} {lb : Array Value} (hl₀ : w.heap[l₀]? = some (.loop r₀)) (hg : a.eval g = .func (.func gf) #[] lb) (eg : ∀ args w, (callFunc gf args).run P w = .ok (.enter gf args) w)
    {encs : α → Array Value} {L : List α} {St : List α → (Nat → Prop) → World → Prop} (hseq : ∀ m, SeqM P m gf lb encs L St)
    (hSt : ∀ pre F W W', St pre F W → Kept F W W' → St pre F W') {F0 : Nat → Prop} (hS0 : St [] F0 w) (hF0 : ∀ k, F0 k → k < w.heap.size) (hps : ∀ x, (encs x).size = ps.size)
    (I : List α → (Nat → Prop) → World → Prop) (Ix : Code → List α → (Nat → Prop) → World → Prop)
    (hI : ∀ pre F F' W W', I pre F W → Moves F F' W W' → I pre F' W') (hIx : ∀ c pre F F' W W', Ix c pre F W → Moves F F' W W' → Ix c pre F' W') (h0 : I [] (with1 F0 w.heap.size) w)
    (hround : ∀ (l : Nat) (pre : List α) (x : α) (F : Nat → Prop) (W : World) (K : Act → World → Prop), l = w.heap.size → pre ++ [x] <+: L → I pre (with1 F w.heap.size) W → St (pre ++ [x]) F W → ¬ F w.heap.size → w.heap.size + 1 ≤ W.heap.size →
      (∀ a' Wa, Kept (with1 F w.heap.size) W Wa → (∀ W2, Wa.grownBy W2 (some w.heap.size) → (∃ r, W2.heap[w.heap.size]? = some (.loop r)) → body.wpIn (Fence.wide.inRound l) (n - 1 - 1) P (postN F w.heap.size I Ix (pre ++ [x]) W2) a' W2) → K a' Wa) →
      assign.wpIn (Fence.wide.inRound l) (n - 1 - 1) P (Exit.then K (fun _ _ _ => False)) { tmps := (ps.zip (encs x)).foldl (fun t (p, v) => t.setIfInBounds p v) a.tmps, defers := [] } W)
    (hdone : ∀ (F : Nat → Prop) (W : World), I L (with1 F w.heap.size) W → St L F W → ¬ F w.heap.size → Q .normal a W)
    (hstop : ∀ (c : Code) (pre : List α) (F : Nat → Prop) (W : World), pre <+: L → Ix c pre (with1 F w.heap.size) W → St pre F W → ¬ F w.heap.size → c.wpIn (Fence.wide.inRound l₀) n P Q a W) :
    (Code.rangeFunc g ps assign body).wpIn (Fence.wide.inRound l₀) n P Q a w := by
  refine wpIn_rangeFunc ?_
  intro fn hfn
  have hfn' : Fence.wide.fn fn := trivial
  rw [show (Fence.wide.inRound l₀).round = some l₀ from rfl]
  obtain ⟨rec, hrec⟩ : ∃ rec : LoopState → Option Code → Loop, rec = fun st pe => { state := st, pending := pe, fn, tmps := a.tmps, params := ps, assign, body, defers := r₀.defers } := ⟨_, rfl⟩
  obtain ⟨W1, hW1⟩ : ∃ W1, w.alloc (.loop (rec .ready none)) = W1 := ⟨_, rfl⟩
  have hs1 : W1.heap.size = w.heap.size + 1 := by rw [← hW1]; simp
  have hL1 : W1.heap[w.heap.size]? = some (.loop (rec .ready none)) := by rw [← hW1]; exact World.alloc_heap_new w _
  have hI1 : I [] (with1 F0 w.heap.size) W1 := by rw [← hW1]; exact hI _ _ _ _ _ h0 (moves_alloc _ _)
  have hS1 : St [] F0 W1 := by
    rw [← hW1]
    exact hSt _ _ _ _ hS0 ⟨by rw [alloc_size]; omega, fun r hr => Below.heap_alloc _ _ r (hF0 r hr)⟩
  have ba : ¬ F0 w.heap.size := fun hk => by have := hF0 _ hk; omega
  have keep : ∀ (F F' : Nat → Prop) (A A' : World) (o1 : Obj), ¬ F w.heap.size → A.heap[w.heap.size]? = some o1 → Moves F F' A A' → ¬ F' w.heap.size ∧ A'.heap[w.heap.size]? = some o1 := fun F F' A A' o1 hn h1 hm => by
    have l1 := (Array.getElem?_eq_some_iff.1 h1).1
    refine ⟨fun e => ?_, (hm.rest _ l1 hn).trans h1⟩
    rcases hm.foot _ e with e | e
    · exact hn e
    · omega
  refine ⟨w.heap.size, [], W1, { target := .fn (.func gf) lb, args := #[.func (.yield w.heap.size) #[] #[]] }, W1, gf,
    #[.func (.yield w.heap.size) #[] #[]] ++ lb, W1, ?_, ?_, fun _ _ => trivial, ?_, fun h => by simp [Fence.wide] at h, ?_⟩
  · rw [← hW1, hrec]; exact run_enterLoop_inner hl₀ _ _ _ _ _
  · simp only [resolve, hg]
    simp [go_sem]
  · simp [invoke, go_sem, eg]
  · refine CallsIn.inRound l₀ ((hseq (n - 1) w.heap.size
      (fun pre F W => I pre (with1 F w.heap.size) W ∧ ¬ F w.heap.size ∧ W.heap[w.heap.size]? = some (.loop (rec .ready none)))
      (fun pre F W => ∃ c, Ix c pre (with1 F w.heap.size) W ∧ ¬ F w.heap.size ∧ W.heap[w.heap.size]? = some (.loop (rec .done (some c))))
      W1 F0 hS1
      (fun pre F F' A A' hs hm => by
        obtain ⟨hi, hn, hl⟩ := hs
        exact ⟨hI _ _ _ _ _ hi (hm.with1 _), keep F F' A A' _ hn hl hm⟩)
      (fun pre F F' A A' hs hm => by
        obtain ⟨c, hi, hn, hl⟩ := hs
        exact ⟨c, hIx c _ _ _ _ _ hi (hm.with1 _), keep F F' A A' _ hn hl hm⟩)
      ?_ ⟨hI1, ba, hL1⟩).mono ?_)
    · rintro pre x F W hpx ⟨hi, hn, hl⟩ hst
      have hlt : w.heap.size < W.heap.size := (Array.getElem?_eq_some_iff.1 hl).1
      have hy := run_yield (P := P) (args := encs x) hl (by rw [hrec]; exact hps x)
      rw [hrec] at hy
      refine ⟨fn, _, assign, body, hy, roundIn_of_wpIn hfn' (hround _ pre x F W _ rfl hpx hi hst hn (by omega) (fun a' Wa hka hbd => ⟨_, run_beginRound ((hka.same w.heap.size (.inr rfl)).trans hl) (by rw [hrec]), ?_⟩))⟩
      have hla := (hka.same w.heap.size (.inr rfl)).trans hl
      have hlta : w.heap.size < Wa.heap.size := (Array.getElem?_eq_some_iff.1 hla).1
      have hl2 : (Wa.putObj w.heap.size (.loop { rec .ready none with state := .busy })).heap[w.heap.size]? = some (.loop { rec .ready none with state := .busy }) := World.putObj_heap_same hlta
      refine wpIn_mono (hbd _ (grownBy_putObj' Wa w.heap.size _) ⟨_, hl2⟩) ?_
      have fin : ∀ (jump : Option Code) (W3 : World), Kept (with1 F w.heap.size) (Wa.putObj w.heap.size (.loop { rec .ready none with state := .busy })) W3 →
          (Instr.endRound w.heap.size jump).run P W3 = .ok (.bool jump.isNone) (W3.putObj w.heap.size (.loop (rec (if jump.isNone then .ready else .done) jump))) ∧
          (W3.putObj w.heap.size (.loop (rec (if jump.isNone then .ready else .done) jump))).heap[w.heap.size]? = some (.loop (rec (if jump.isNone then .ready else .done) jump)) := fun jump W3 hk3 => by
        have hl3 := (hk3.same w.heap.size (.inr rfl)).trans hl2
        have := run_endRound (P := P) jump hl3
        rw [hrec] at this ⊢
        exact ⟨this, World.putObj_heap_same (Array.getElem?_eq_some_iff.1 hl3).1⟩
      have kp : ∀ (o3 : Obj) (W3 : World), Kept (with1 F w.heap.size) (Wa.putObj w.heap.size (.loop { rec .ready none with state := .busy })) W3 → Kept F W (W3.putObj w.heap.size o3) := fun o3 W3 hk3 =>
        ⟨by have := hk3.size; have := hka.size; simp at *; omega, fun r hr => by
          have hne : r ≠ w.heap.size := fun e => hn (by rw [← e]; exact hr)
          rw [World.putObj_heap_other hne, hk3.same r (.inl hr), World.putObj_heap_other hne, hka.same r (.inl hr)]⟩
      have put : ∀ {pre' : List α} {W3 : World} (o3 : Obj), I pre' (with1 F w.heap.size) W3 → I pre' (with1 F w.heap.size) (W3.putObj w.heap.size o3) := fun o3 h => hI _ _ _ _ _ h (moves_put1 F o3)
      have putx : ∀ {c : Code} {pre' : List α} {W3 : World} (o3 : Obj), Ix c pre' (with1 F w.heap.size) W3 → Ix c pre' (with1 F w.heap.size) (W3.putObj w.heap.size o3) := fun o3 h => hIx _ _ _ _ _ _ h (moves_put1 F o3)
      rintro e a3 W3 hp
      cases e with
      | normal =>
        obtain ⟨hk3, hi3⟩ := hp
        obtain ⟨hr, hl4⟩ := fin none W3 hk3
        exact ⟨_, _, hr, .inl ⟨rfl, ⟨put _ hi3, hn, hl4⟩, kp _ _ hk3⟩⟩
      | ret =>
        obtain ⟨hk3, hi3⟩ := hp
        obtain ⟨hr, hl4⟩ := fin (some .ret) W3 hk3
        exact ⟨_, _, hr, .inr ⟨rfl, ⟨.ret, putx _ hi3, hn, hl4⟩, kp _ _ hk3⟩⟩
      | exit id =>
        obtain ⟨hk3, hi3⟩ := hp
        obtain ⟨hr, hl4⟩ := fin (some (.exit id)) W3 hk3
        exact ⟨_, _, hr, .inr ⟨rfl, ⟨.exit id, putx _ hi3, hn, hl4⟩, kp _ _ hk3⟩⟩
      | goto t =>
        obtain ⟨hk3, hi3⟩ := hp
        obtain ⟨hr, hl4⟩ := fin (some (.goto t)) W3 hk3
        exact ⟨_, _, hr, .inr ⟨rfl, ⟨.goto t, putx _ hi3, hn, hl4⟩, kp _ _ hk3⟩⟩
      | panic ch => exact hp.elim
      | outgrown => exact hp.elim
    · have stp : ∀ {pre' : List α} {F : Nat → Prop} {W3 : World} (o3 : Obj), ¬ F w.heap.size → St pre' F W3 → St pre' F (W3.putObj w.heap.size o3) := fun o3 hn h =>
        hSt _ _ _ _ h ⟨by simp, fun r hr => World.putObj_heap_other fun e => hn (by rw [← e]; exact hr)⟩
      rintro e W2 ⟨⟨v, rfl⟩, F, (⟨⟨hi, hn, hl⟩, hst⟩ | ⟨pre, hpl, ⟨c, hi, hn, hl⟩, hst⟩)⟩
      · exact ⟨none, _, by have := run_endLoop (P := P) hl (by rw [hrec]; simp); rw [hrec] at this; exact this, hdone F _ (hI _ _ _ _ _ hi (moves_put1 F _)) (stp _ hn hst) hn⟩
      · exact ⟨some c, _, by have := run_endLoop (P := P) hl (by rw [hrec]; simp); rw [hrec] at this; exact this, hstop c pre F _ hpl (hIx _ _ _ _ _ _ hi (moves_put1 F _)) (stp _ hn hst) hn⟩
end Go.Proofs.Ytlmolmmhkddpaaa
