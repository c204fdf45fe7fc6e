/- Patterns as rows of keys: what a walk from node to node finds is the best one. -/
import Derived.Test.YtgoaljnfegaldaaDoorTm1
namespace Go.Proofs.YtgoaljnfegaldaaDoor
open Go.RowKit

/-- What a node's child stands under. -/
inductive Key where
  | lit (s : Txt)
  | par
  | rst
deriving DecidableEq
def keyS (s : Txt) : Key := if kindS s = 0 then .lit s else if kindS s = 1 then .par else .rst
def keysF (l : List Txt) : List Key := l.map keyS
def rankK : Key → Nat
  | .lit _ => 0
  | .par => 1
  | .rst => 2
theorem rank_kind (s : Txt) : rankK (keyS s) = kindS s := by
  have h := kind_le s
  unfold keyS
  split
  · rename_i h0; rw [h0]; rfl
  · split
    · rename_i h1; rw [h1]; rfl
    · show 2 = _
      omega
theorem key_eq (s t : Txt) : (keyS s = keyS t) ↔ (kindS s = kindS t ∧ (kindS s = 0 → s = t)) := by
  constructor
  · intro h
    have hk : kindS s = kindS t := by rw [← rank_kind, ← rank_kind, h]
    refine ⟨hk, fun h0 => ?_⟩
    unfold keyS at h
    rw [if_pos h0, if_pos (by rw [← hk]; exact h0)] at h
    injection h
  · rintro ⟨h1, h2⟩
    unfold keyS
    rw [← h1]
    split
    · rename_i h0; rw [h2 h0]
    · rfl
theorem twin_keys : ∀ a b : List Txt, twinF a b = true ↔ keysF a = keysF b
  | [], [] => by simp [twinF, keysF]
  | [], _ :: _ => by simp [twinF, keysF]
  | _ :: _, [] => by simp [twinF, keysF]
  | s :: a, t :: b => by
    rw [twinF, Bool.and_eq_true, twin_keys a b]
    show _ ↔ keyS s :: keysF a = keyS t :: keysF b
    rw [List.cons.injEq, key_eq]
    refine and_congr_left fun _ => ?_
    rw [Bool.and_eq_true, beq_iff_eq, Bool.or_eq_true, bne_iff_ne, beq_iff_eq]
    exact and_congr_right fun _ => ⟨fun h h0 => h.resolve_left fun e => e h0, fun h => by
      by_cases h0 : kindS s = 0
      · exact .inr (h h0)
      · exact .inl h0⟩
def fitK : List Key → List Txt → Bool
  | [], [] => true
  | .rst :: _, _ :: _ => true
  | .par :: l, x :: p => x != [] && fitK l p
  | .lit s :: l, x :: p => s == x && fitK l p
  | _, _ => false
theorem fit_keys : ∀ l p : List Txt, fitsF l p = fitK (keysF l) p
  | [], [] => rfl
  | [], _ :: _ => rfl
  | s :: l, [] => by
    show _ = fitK (keyS s :: keysF l) []
    cases keyS s <;> rfl
  | s :: l, x :: p => by
    rw [fitsF, fit_keys l p]
    show _ = fitK (keyS s :: keysF l) (x :: p)
    have h := kind_le s
    unfold keyS
    by_cases h0 : kindS s = 0
    · rw [if_pos h0, if_neg (by omega), if_neg (by omega)]; rfl
    · by_cases h1 : kindS s = 1
      · rw [if_neg h0, if_pos h1, if_neg (by omega), if_pos h1]; rfl
      · rw [if_neg h0, if_neg h1, if_pos (by omega), if_neg h1]; rfl
def betterK : List Key → List Key → Bool
  | a :: as, b :: bs => if rankK a ≠ rankK b then decide (rankK a < rankK b) else betterK as bs
  | _, _ => false
theorem better_keys : ∀ a b : List Txt, betterF a b = betterK (keysF a) (keysF b)
  | [], _ => by simp [betterF, keysF, betterK]
  | _ :: _, [] => by simp [betterF, keysF, betterK]
  | s :: a, t :: b => by
    rw [betterF, better_keys a b]
    show _ = betterK (keyS s :: keysF a) (keyS t :: keysF b)
    rw [betterK, rank_kind, rank_kind]
theorem tidy_keys : ∀ (l : List Txt) (k r : List Key), Tidy l → keysF l = k ++ .rst :: r → r = []
  | [], k, r, _, h => by
    cases k <;> simp [keysF] at h
  | s :: l, [], r, ht, h => by
    have h : keyS s :: keysF l = .rst :: r := h
    injection h with h1 h2
    have hk : kindS s = 2 := by rw [← rank_kind, h1]; rfl
    rw [ht.1.2 hk] at h2
    exact h2.symm
  | s :: l, c :: k, r, ht, h => by
    have h : keyS s :: keysF l = c :: (k ++ .rst :: r) := h
    injection h with _ h2
    exact tidy_keys l k r ht.2 h2
section
variable {α : Type}
/-- What is found from a node on: k leads to it. -/
def findK (dom : List Key → Bool) (here : List Key → Option α) : List Key → List Txt → Option α
  | k, [] => here k
  | k, x :: p =>
    ((if dom (k ++ [.lit x]) = true then findK dom here (k ++ [.lit x]) p else none).or
      (if x ≠ [] ∧ dom (k ++ [.par]) = true then findK dom here (k ++ [.par]) p else none)).or
      (if dom (k ++ [.rst]) = true then here (k ++ [.rst]) else none)
end
section
variable {β : Type}
/-- Nodes that hold these patterns: each pattern's node has it, all nodes on the way are there. -/
structure Keyd (l : Ents β) (dom : List Key → Bool) (here : List Key → Option (Txt × β)) : Prop where
  at_ : ∀ k e, here k = some e ↔ e ∈ l ∧ keysF (segD e.1) = k
  way : ∀ e ∈ l, ∀ k r, keysF (segD e.1) = k ++ r → dom k = true
/-- The best one of those below a node. -/
def FromK (l : Ents β) (k : List Key) (p : List Txt) (o : Option (Txt × β)) : Prop := match o with
  | none => ∀ e ∈ l, ∀ r, keysF (segD e.1) = k ++ r → fitK r p = false
  | some e => e ∈ l ∧ ∃ r, keysF (segD e.1) = k ++ r ∧ fitK r p = true ∧ ∀ f ∈ l, ∀ r', keysF (segD f.1) = k ++ r' → fitK r' p = true → f = e ∨ betterK r r' = true
theorem from_one {l : Ents β} {dom : List Key → Bool} {here : List Key → Option (Txt × β)} (hw : Wf l) (h : Keyd l dom here) : ∀ (p : List Txt) (k : List Key), FromK l k p (findK dom here k p)
  | [], k => by
    unfold findK
    cases ho : here k with
    | none =>
      intro e he r hr
      cases r with
      | nil =>
        rw [List.append_nil] at hr
        rw [(h.at_ k e).2 ⟨he, hr⟩] at ho; cases ho
      | cons a r => cases a <;> rfl
    | some e =>
      obtain ⟨he, hk⟩ := (h.at_ k e).1 ho
      refine ⟨he, [], by rw [hk, List.append_nil], rfl, fun f hf r' hr' hfit => ?_⟩
      cases r' with
      | nil =>
        left
        refine hw.same hf he ((twin_keys _ _).2 ?_)
        rw [hr', hk, List.append_nil]
      | cons a r => cases a <;> cases hfit
  | x :: p, k => by
    have i1 := from_one hw h p (k ++ [.lit x])
    have i2 := from_one hw h p (k ++ [.par])
    unfold findK
    -- a literal that is just this
    have a1 : ∀ e ∈ l, ∀ r, keysF (segD e.1) = k ++ .lit x :: r → dom (k ++ [.lit x]) = true := fun e he r hr => h.way e he _ r (by rw [hr, List.append_assoc]; rfl)
    have a2 : ∀ e ∈ l, ∀ r, keysF (segD e.1) = k ++ .par :: r → dom (k ++ [.par]) = true := fun e he r hr => h.way e he _ r (by rw [hr, List.append_assoc]; rfl)
    have a3 : ∀ e ∈ l, ∀ r, keysF (segD e.1) = k ++ .rst :: r → dom (k ++ [.rst]) = true ∧ here (k ++ [.rst]) = some e := fun e he r hr => by
      have hr0 := tidy_keys _ _ _ (hw.tidy he) hr
      subst hr0
      exact ⟨h.way e he _ [] (by rw [hr, List.append_nil]), (h.at_ _ _).2 ⟨he, hr⟩⟩
    have b1 : ∀ o, (if dom (k ++ [.lit x]) = true then findK dom here (k ++ [.lit x]) p else none) = o → FromK l (k ++ [.lit x]) p o := fun o ho => by
      split at ho
      · rw [← ho]; exact i1
      · subst ho
        rename_i hd
        intro e he r hr
        exact absurd (a1 e he r (by rw [hr, List.append_assoc]; rfl)) hd
    have b2 : ∀ o, (if x ≠ [] ∧ dom (k ++ [.par]) = true then findK dom here (k ++ [.par]) p else none) = o → (x ≠ [] → FromK l (k ++ [.par]) p o) ∧ (x = [] → o = none) := fun o ho => by
      split at ho
      · rename_i hd
        exact ⟨fun _ => by rw [← ho]; exact i2, fun hx => absurd hx hd.1⟩
      · subst ho
        rename_i hd
        refine ⟨fun hx e he r hr => ?_, fun _ => rfl⟩
        exact absurd ⟨hx, a2 e he r (by rw [hr, List.append_assoc]; rfl)⟩ hd
    generalize (if dom (k ++ [.lit x]) = true then findK dom here (k ++ [.lit x]) p else none) = o1 at *
    generalize (if x ≠ [] ∧ dom (k ++ [.par]) = true then findK dom here (k ++ [.par]) p else none) = o2 at *
    have c1 := b1 o1 rfl
    have c2 := b2 o2 rfl
    -- what fits here is one of three
    have hsplit : ∀ f ∈ l, ∀ r', keysF (segD f.1) = k ++ r' → fitK r' (x :: p) = true → (∃ r, r' = .lit x :: r ∧ fitK r p = true) ∨ (∃ r, r' = .par :: r ∧ x ≠ [] ∧ fitK r p = true) ∨ (∃ r, r' = .rst :: r) := by
      intro f _ r' _ hfit
      cases r' with
      | nil => cases hfit
      | cons a r =>
        cases a with
        | lit s =>
          rw [fitK, Bool.and_eq_true, beq_iff_eq] at hfit
          exact .inl ⟨r, by rw [hfit.1], hfit.2⟩
        | par =>
          rw [fitK, Bool.and_eq_true, bne_iff_ne] at hfit
          exact .inr (.inl ⟨r, rfl, hfit.1, hfit.2⟩)
        | rst => exact .inr (.inr ⟨r, rfl⟩)
    have app : ∀ (c : Key) (r : List Key), k ++ c :: r = k ++ [c] ++ r := fun c r => by rw [List.append_assoc]; rfl
    cases o1 with
    | some e =>
      obtain ⟨he, r, hr, hfit, hbest⟩ := c1
      refine ⟨he, .lit x :: r, hr.trans (app _ _).symm, by rw [fitK, hfit, beq_self_eq_true]; rfl, fun f hf r' hr' hfit' => ?_⟩
      rcases hsplit f hf r' hr' hfit' with ⟨q, rfl, hq⟩ | ⟨q, rfl, _, _⟩ | ⟨q, rfl⟩
      · rcases hbest f hf q (by rw [hr', app]) hq with h1 | h1
        · exact .inl h1
        · right; rw [betterK, if_neg (fun e => e rfl)]; exact h1
      · right; rfl
      · right; rfl
    | none =>
      have n1 : ∀ f ∈ l, ∀ r, keysF (segD f.1) = k ++ .lit x :: r → fitK r p = false := fun f hf r hr => c1 f hf r (by rw [hr, app])
      cases o2 with
      | some e =>
        have hx : x ≠ [] := fun hx => by cases c2.2 hx
        obtain ⟨he, r, hr, hfit, hbest⟩ := c2.1 hx
        refine ⟨he, .par :: r, hr.trans (app _ _).symm, by rw [fitK, hfit, Bool.and_true]; exact bne_iff_ne.2 hx, fun f hf r' hr' hfit' => ?_⟩
        rcases hsplit f hf r' hr' hfit' with ⟨q, rfl, hq⟩ | ⟨q, rfl, _, hq⟩ | ⟨q, rfl⟩
        · rw [n1 f hf q hr'] at hq; cases hq
        · rcases hbest f hf q (by rw [hr', app]) hq with h1 | h1
          · exact .inl h1
          · right; rw [betterK, if_neg (fun e => e rfl)]; exact h1
        · right; rfl
      | none =>
        have n2 : ∀ f ∈ l, ∀ r, x ≠ [] → keysF (segD f.1) = k ++ .par :: r → fitK r p = false := fun f hf r hx hr => c2.1 hx f hf r (by rw [hr, app])
        show FromK l k (x :: p) (if dom (k ++ [.rst]) = true then here (k ++ [.rst]) else none)
        have nof : (∀ f ∈ l, ∀ r, keysF (segD f.1) ≠ k ++ .rst :: r) → FromK l k (x :: p) none := by
          intro hno e he r hr
          cases hfit : fitK r (x :: p) with
          | false => rfl
          | true =>
            rcases hsplit e he r hr hfit with ⟨q, rfl, hq⟩ | ⟨q, rfl, hx, hq⟩ | ⟨q, rfl⟩
            · rw [n1 e he q hr] at hq; cases hq
            · rw [n2 e he q hx hr] at hq; cases hq
            · exact absurd hr (hno e he q)
        split
        · cases ho : here (k ++ [.rst]) with
          | none =>
            refine nof fun f hf r hr => ?_
            rw [(a3 f hf r hr).2] at ho; cases ho
          | some e =>
            obtain ⟨he, hk⟩ := (h.at_ _ _).1 ho
            refine ⟨he, [.rst], hk, rfl, fun f hf r' hr' hfit' => ?_⟩
            rcases hsplit f hf r' hr' hfit' with ⟨q, rfl, hq⟩ | ⟨q, rfl, hx, hq⟩ | ⟨q, rfl⟩
            · rw [n1 f hf q hr'] at hq; cases hq
            · rw [n2 f hf q hx hr'] at hq; cases hq
            · left
              have := (a3 f hf q hr').2
              rw [ho] at this
              injection this with this
              exact this.symm
        · rename_i hd
          exact nof fun f hf r hr => hd (a3 f hf r hr).1
theorem find_keys {l : Ents β} {dom : List Key → Bool} {here : List Key → Option (Txt × β)} (hw : Wf l) (h : Keyd l dom here) (path : List Txt) : FindIs l path (findK dom here [] path) := by
  have h1 := from_one hw h path []
  generalize findK dom here [] path = o at *
  cases o with
  | none =>
    intro f hf
    rw [fit_keys]
    exact h1 f hf _ rfl
  | some e =>
    obtain ⟨he, r, hr, hfit, hbest⟩ := h1
    have hr : keysF (segD e.1) = r := hr
    refine ⟨he, by rw [fit_keys, hr]; exact hfit, fun f hf hff => ?_⟩
    rw [fit_keys] at hff
    rw [better_keys, hr]
    exact hbest f hf _ rfl hff
/-- Is a twin there? -/
theorem twin_here {l : Ents β} {dom : List Key → Bool} {here : List Key → Option (Txt × β)} (h : Keyd l dom here) (s : List Txt) : (l.any fun e => twinF s (segD e.1)) = (here (keysF s)).isSome := by
  rw [Bool.eq_iff_iff, List.any_eq_true]
  constructor
  · rintro ⟨e, he, ht⟩
    rw [(h.at_ (keysF s) e).2 ⟨he, ((twin_keys _ _).1 ht).symm⟩]; rfl
  · intro hs
    obtain ⟨e, he⟩ := Option.isSome_iff_exists.1 hs
    obtain ⟨h1, h2⟩ := (h.at_ _ _).1 he
    exact ⟨e, h1, (twin_keys _ _).2 h2.symm⟩
theorem keyd_nil (dom : List Key → Bool) : Keyd ([] : Ents β) dom (fun _ => none) := ⟨fun k e => by simp, fun e he => by cases he⟩
/-- More nodes turn nothing. -/
theorem Keyd.more {l : Ents β} {dom dom' : List Key → Bool} {here : List Key → Option (Txt × β)} (h : Keyd l dom here) (hd : ∀ k, dom k = true → dom' k = true) : Keyd l dom' here :=
  ⟨h.at_, fun e he k r hr => hd k (h.way e he k r hr)⟩
/-- One more pattern. -/
theorem Keyd.add {l : Ents β} {dom : List Key → Bool} {here : List Key → Option (Txt × β)} (h : Keyd l dom here) (p : Txt) (x : β) (hn : here (keysF (segD p)) = none) (hd : ∀ k r, keysF (segD p) = k ++ r → dom k = true) :
    Keyd (l ++ [(p, x)]) dom (fun k => if k = keysF (segD p) then some (p, x) else here k) := by
  refine ⟨fun k e => ?_, fun e he k r hr => ?_⟩
  · by_cases hk : k = keysF (segD p)
    · rw [if_pos hk, List.mem_append, List.mem_singleton]
      constructor
      · intro h1
        injection h1 with h1
        subst h1
        exact ⟨.inr rfl, hk.symm⟩
      · rintro ⟨h1 | h1, h2⟩
        · have := (h.at_ k e).2 ⟨h1, h2⟩
          rw [hk, hn] at this; cases this
        · rw [h1]
    · rw [if_neg hk, List.mem_append, List.mem_singleton, h.at_]
      constructor
      · rintro ⟨h1, h2⟩; exact ⟨.inl h1, h2⟩
      · rintro ⟨h1 | h1, h2⟩
        · exact ⟨h1, h2⟩
        · subst h1; exact absurd h2.symm hk
  · rcases List.mem_append.1 he with he | he
    · exact h.way e he k r hr
    · rw [List.mem_singleton] at he
      subst he
      exact hd k r hr
end
end Go.Proofs.YtgoaljnfegaldaaDoor
