/- What is kept while requests are collected; two parsers side by side. (mkrp.py writes it.) -/
import Derived.Test.YtplajlccnnbifaaDoorRl
namespace Go.Proofs.YtplajlccnnbifaaDoor
open Go.RowKit

section
variable {RA : World → (Nat → Prop) → Nat → PSt → Prop} {w W W' : World} {g : Nat} {st : PSt} {K : Nat → Prop}
theorem OneK.keeps (C : RequestI w RA) (h : OneK RA w g st K W) {b : Nat} (hb : K b) (hw : w.heap.size ≤ b) (hk : Keeps b W W') : OneK RA w g st K W' := by
  obtain ⟨⟨F, h1, h2, h3⟩, hB⟩ := h
  have hlt := (C.lt h1).2
  refine ⟨⟨F, C.same h1 hk.size (fun k hf => hk.block k (hlt k hf) (fun e => (h3 b hb).2 (by rw [← e]; exact hf))), h2, fun k hk' => ⟨Nat.lt_of_lt_of_le (h3 k hk').1 hk.size, (h3 k hk').2⟩⟩, hB.trans ?_⟩
  exact ⟨hk.os, hk.tape, hk.output, hk.size, fun k hk' => hk.block k (by have := hB.size; omega) (by omega)⟩
theorem OneK.grown (C : RequestI w RA) (h : OneK RA w g st K W) {row : Option Nat} (hg : W.grownBy W' row) (hr : ∀ k, row = some k → K k ∧ w.heap.size ≤ k) : OneK RA w g st (fun k => K k ∨ (W.heap.size ≤ k ∧ k < W'.heap.size)) W' := by
  obtain ⟨⟨F, h1, h2, h3⟩, hB⟩ := h
  have hlt := (C.lt h1).2
  have hs := hg.size
  refine ⟨⟨F, C.same h1 hs (fun k hf => hg.block k (hlt k hf) (fun e => (h3 k (hr k e.symm).1).2 hf)), h2, fun k hk => ?_⟩, below_grown hB hg (fun k e => (hr k e).2) hB.size⟩
  rcases hk with hk | hk
  · have h4 := h3 k hk; exact ⟨by omega, h4.2⟩
  · exact ⟨hk.2, fun hf => by have := hlt k hf; omega⟩
theorem Reqs.vlen {w : World} {base : Nat} {K : Nat → Prop} {V : Value} {xs : List (Rq × Value × Nat)} (h : Reqs w base K V xs) : vlen V = xs.length := by
  rcases h.row.2 with ⟨rfl, h0⟩ | ⟨g, cap, cur, rfl, _⟩
  · rw [h0]; rfl
  · rfl

/-- A request is told and waits in its box; the ones ahead of it stand in a list. -/
def CollT (RA : World → (Nat → Prop) → Nat → PSt → Prop) (w : World) (g b7 : Nat) (L : List Rq) (p' : PSt) (lv : Value) (W : World) : Prop :=
  ∃ xs KL u r rest a c gf, Reqs W w.heap.size KL lv xs ∧ ¬ KL b7 ∧ OneK RA w g u (fun k => KL k ∨ k = b7) W ∧ Drains u rest p' ∧ L = xs.map (·.1) ++ r :: rest ∧
    Row W b7 (rqCells r.m r.p r.q r.v (.slice a r.fs.length c) r.body r.cl) 30 ∧ FldsAt W (.slice a r.fs.length c) r.fs gf ∧ (r.fs = [] ∨ (KL gf ∧ lv.ownBlock ≠ some gf)) ∧ u.buf.length ≤ 20000
/-- It was appended. -/
def CollM (RA : World → (Nat → Prop) → Nat → PSt → Prop) (w : World) (g b7 : Nat) (L : List Rq) (p' : PSt) (lv : Value) (W : World) : Prop :=
  ∃ xs KL u rest, Reqs W w.heap.size KL lv xs ∧ ¬ KL b7 ∧ OneK RA w g u (fun k => KL k ∨ k = b7) W ∧ Drains u rest p' ∧ L = xs.map (·.1) ++ rest ∧ (∃ cs, Row W b7 cs 30 ∧ cs.size = 7) ∧ u.buf.length ≤ 20000
/-- All are told. -/
def CollF (RA : World → (Nat → Prop) → Nat → PSt → Prop) (w : World) (g : Nat) (L : List Rq) (p' : PSt) (lv : Value) (W : World) : Prop :=
  ∃ xs KL, Reqs W w.heap.size KL lv xs ∧ OneK RA w g p' KL W ∧ xs.map (·.1) = L
variable {b7 : Nat} {L : List Rq} {p' : PSt} {lv : Value}
theorem coll_zero (_C : RequestI w RA) (h : OneK RA w g p' K W) (hL : L = []) : CollF RA w g L p' (.slice none 0 0) W :=
  ⟨[], fun _ => False, (reqs_nil W _), h.mono (fun _ h => h.elim), by rw [hL]; rfl⟩
theorem coll_first (C : RequestI w RA) {u : PSt} {r : Rq} {rest : List Rq} {a : Option Addr} {c gf : Nat} (h : OneK RA w g u (fun k => False ∨ FK r.fs gf k) W) (hd : Drains u rest p') (hL : L = r :: rest) (hf : FldsAt W (.slice a r.fs.length c) r.fs gf) (hg : r.fs = [] ∨ gf < W.heap.size) (hu : u.buf.length ≤ 20000) :
    CollT RA w g W.heap.size L p' (.slice none 0 0) (W.alloc (.cells (rqCells r.m r.p r.q r.v (.slice a r.fs.length c) r.body r.cl) 30)) := by
  have hB : Below W.heap.size W (W.alloc (.cells (rqCells r.m r.p r.q r.v (.slice a r.fs.length c) r.body r.cl) 30)) := (Below.refl _ W).alloc (Nat.le_refl _) _
  refine ⟨[], FK r.fs gf, u, r, rest, a, c, gf, (reqs_nil _ _).mono (fun _ h => h.elim) (fun k hk => ?_), fun h => ?_, (h.grow C hB).mono (fun k hk => ?_), hd, by rw [hL]; rfl, row_new _ _ _, hf.below hB, ?_, hu⟩
  · obtain ⟨hne, rfl⟩ := hk
    rw [alloc_size]; have := hg.resolve_left hne; omega
  · have := hg.resolve_left h.1; have := h.2; omega
  · rcases hk with hk | rfl
    · exact .inl (.inr hk)
    · exact .inr ⟨Nat.le_refl _, by rw [alloc_size]; omega⟩
  · by_cases hne : r.fs = []
    · exact .inl hne
    · exact .inr ⟨⟨hne, rfl⟩, fun e => by cases e⟩
/-- What waits is appended. -/
theorem CollT.append (C : RequestI w RA) (h : CollT RA w g b7 L p' lv W) : ∃ (n : Nat) (cs : List Value) (r : Rq) (a : Option Addr) (c : Nat), Row W b7 (rqCells r.m r.p r.q r.v (.slice a r.fs.length c) r.body r.cl) 30 ∧ W.ownsRow w.heap.size 30 7 lv n cs ∧ w.heap.size ≤ W.heap.size ∧ vlen lv = n ∧ n < L.length ∧
    ∀ g' cap W3, W3.ownsRow w.heap.size 30 7 (.slice (some ⟨g', 0, none⟩) (n + 1) cap) (n + 1) (cs ++ ((rqCells r.m r.p r.q r.v (.slice a r.fs.length c) r.body r.cl)).toList) → W.grownBy W3 lv.ownBlock → (lv.ownBlock = some g' ∨ W.heap.size ≤ g') → g' < W3.heap.size →
      CollM RA w g b7 L p' (.slice (some ⟨g', 0, none⟩) (n + 1) cap) W3 := by
  obtain ⟨xs, KL, u, r, rest, a, c, gf, hR, hb7, hO, hd, hL, hrow, hf, hfk, hu⟩ := h
  refine ⟨xs.length, xs.flatMap rcells, r, a, c, hrow, hR.row, hO.bel.size, hR.vlen, by rw [hL]; simp, fun g' cap W3 o1 o2 o3 o4 => ?_⟩
  have hS := hR.snoc (x := (r, .slice a r.fs.length c, gf)) hf hfk o1 o2 o3 o4
  have hlt := hO.lt b7 (.inr rfl)
  refine ⟨xs ++ [(r, .slice a r.fs.length c, gf)], fun k => KL k ∨ k = g', u, rest, hS, ?_, (hO.grown C o2 (fun k hk => ⟨.inl (hR.own k hk), (hR.row.lt k hk).1⟩)).mono (fun k hk => ?_), hd, by rw [hL, List.map_append]; simp, ⟨_, row_grown hrow o2 (fun e => hb7 (hR.own b7 e.symm)), rfl⟩, hu⟩
  · rintro (h | rfl)
    · exact hb7 h
    · rcases o3 with h | h
      · exact hb7 (hR.own _ h)
      · omega
  · rcases hk with (hk | rfl) | rfl
    · exact .inl (.inl hk)
    · rcases o3 with h | h
      · exact .inl (.inl (hR.own _ h))
      · exact .inr ⟨h, o4⟩
    · exact .inl (.inr rfl)
/-- The next one is asked for, and laid into the box. -/
theorem CollM.next (C : RequestI w RA) (h : CollM RA w g b7 L p' lv W) (hw : w.heap.size ≤ b7) :
    (Calls Tryd.prog 8 #[.pointer (some ⟨g, 0, none⟩)] W fun e W' => e = .returned (.tuple #[.agg zeroR, .bool false]) ∧ (∃ cs, Row W' b7 cs 30 ∧ cs.size = 7) ∧
      ∀ W5, Row W5 b7 zeroR 30 → Keeps b7 W' W5 → CollF RA w g L p' lv W5) ∨
    (∃ r : Rq, Calls Tryd.prog 8 #[.pointer (some ⟨g, 0, none⟩)] W fun e W' => ∃ a c, e = .returned (.tuple #[.agg (rqCells r.m r.p r.q r.v (.slice a r.fs.length c) r.body r.cl), .bool true]) ∧ (∃ cs, Row W' b7 cs 30 ∧ cs.size = 7) ∧
      ∀ W5, Row W5 b7 (rqCells r.m r.p r.q r.v (.slice a r.fs.length c) r.body r.cl) 30 → Keeps b7 W' W5 → CollT RA w g b7 L p' lv W5) := by
  obtain ⟨xs, KL, u, rest, hR, hb7, hO, hd, hL, ⟨cs, hrow, hcs⟩, hu⟩ := h
  cases hd with
  | stop hn =>
    left
    refine (hO.nextNone C (by omega) hn).mono ?_
    rintro e W4 ⟨rfl, h, hs⟩
    have hrow4 := hs.row hrow (.inr rfl)
    have hR4 := hR.kept (fun k hk => hs k (.inl hk)) (fun k hk => h.lt k (.inl hk))
    refine ⟨rfl, ⟨cs, hrow4, hcs⟩, fun W5 _ hk => ?_⟩
    have h5 := h.keeps C (.inr rfl) hw hk
    exact ⟨xs, KL, hR4.kept (fun k hk' => hk.block k (h.lt k (.inl hk')) (fun e => hb7 (by rw [← e]; exact hk'))) (fun k hk' => h5.lt k (.inl hk')), h5.mono (fun k hk => .inl hk), by rw [hL, List.append_nil]⟩
  | @more _ u1 _ r rest' hn hd' =>
    right
    have hl := (next_len hn).2.2.1
    refine ⟨r, (hO.nextSome C (by omega) hn).mono ?_⟩
    rintro e W4 ⟨a, c, gf, rfl, hf, h, hs, hgf⟩
    have hrow4 := hs.row hrow (.inr rfl)
    have hlt := hO.lt b7 (.inr rfl)
    have hR4 := hR.kept (fun k hk => hs k (.inl hk)) (fun k hk => h.lt k (.inl (.inl hk)))
    have hne : ∀ k, FK r.fs gf k → k ≠ b7 := fun k hk e => (hgf.resolve_left hk.1).1 (by rw [← hk.2]; exact .inr e)
    refine ⟨a, c, rfl, ⟨cs, hrow4, hcs⟩, fun W5 hr5 hk => ?_⟩
    have h5 := h.keeps C (.inl (.inr rfl)) hw hk
    have hkk : ∀ k, KL k ∨ FK r.fs gf k → W5.heap[k]? = W4.heap[k]? := fun k hk' => by
      refine hk.block k (h.lt k ?_) ?_
      · rcases hk' with h1 | h1
        · exact .inl (.inl h1)
        · exact .inr h1
      · rcases hk' with h1 | h1
        · exact fun e => hb7 (by rw [← e]; exact h1)
        · exact hne k h1
    refine ⟨xs, fun k => KL k ∨ FK r.fs gf k, u1, r, rest', a, c, gf, ?_, ?_, h5.mono (fun k hk => ?_), hd', hL, hr5, hf.same (fun hne' => hkk gf (.inr ⟨hne', rfl⟩)), ?_, by omega⟩
    · refine (hR4.mono (K' := fun k => KL k ∨ FK r.fs gf k) (fun k hk => .inl hk) (fun k hk => ?_)).kept hkk (fun k hk => ?_)
      · rcases hk with h1 | h1
        · exact h.lt k (.inl (.inl h1))
        · exact h.lt k (.inr h1)
      · rcases hk with h1 | h1
        · exact h5.lt k (.inl (.inl h1))
        · exact h5.lt k (.inr h1)
    · rintro (h1 | h1)
      · exact hb7 h1
      · exact hne b7 h1 rfl
    · rcases hk with (hk | hk) | hk
      · exact .inl (.inl hk)
      · exact .inr hk
      · exact .inl (.inr hk)
    · by_cases hne' : r.fs = []
      · exact .inl hne'
      · exact .inr ⟨.inr ⟨hne', rfl⟩, fun e => (hgf.resolve_left hne').1 (.inl (hR.own gf e))⟩
end
/-- Two parsers side by side. -/
def PairP (RA : World → (Nat → Prop) → Nat → PSt → Prop) (w : World) (g1 g2 : Nat) (s1 s2 : PSt) (W : World) : Prop :=
  (∃ F1 F2, RA W F1 g1 s1 ∧ RA W F2 g2 s2 ∧ (∀ k, F1 k → ¬ F2 k) ∧ (∀ k, F1 k → w.heap.size ≤ k) ∧ ∀ k, F2 k → w.heap.size ≤ k) ∧ Below w.heap.size w W
section
variable {RA : World → (Nat → Prop) → Nat → PSt → Prop} {w Wm W W' : World} {g1 g2 : Nat} {s1 s2 : PSt} {K : Nat → Prop}
theorem PairP.of (C : RequestI w RA) (h1 : OneK RA w g1 s1 K Wm) (h2 : OneK RA w g2 s2 (fun k => k < Wm.heap.size) W) (hs : Same (fun k => k < Wm.heap.size) Wm W) (hz : Wm.heap.size ≤ W.heap.size) : PairP RA w g1 g2 s1 s2 W := by
  obtain ⟨⟨F1, a1, a2, _⟩, _⟩ := h1
  obtain ⟨⟨F2, b1, b2, b3⟩, hB⟩ := h2
  have hlt := (C.lt a1).2
  exact ⟨⟨F1, F2, C.same a1 hz (fun k hk => hs k (hlt k hk)), b1, fun k hk => (b3 k (hlt k hk)).2, a2, b2⟩, hB⟩
theorem PairP.below (C : RequestI w RA) (h : PairP RA w g1 g2 s1 s2 W) (hb : Below W.heap.size W W') : PairP RA w g1 g2 s1 s2 W' := by
  obtain ⟨⟨F1, F2, a1, b1, hd, a2, b2⟩, hB⟩ := h
  exact ⟨⟨F1, F2, C.below a1 hb, C.below b1 hb, hd, a2, b2⟩, hB.trans (hb.mono hB.size)⟩
theorem PairP.bad1 (C : RequestI w RA) (h : PairP RA w g1 g2 s1 s2 W) : Calls Tryd.prog 10 #[.pointer (some ⟨g1, 0, none⟩)] W fun e W' => e = .returned (.int .i64 (s1.bad : Int)) ∧ PairP RA w g1 g2 s1 s2 W' := by
  have h' := h
  obtain ⟨⟨F1, F2, a1, b1, hd, a2, b2⟩, hB⟩ := h
  exact (C.bad a1).mono (by rintro e W' ⟨he, hb⟩; exact ⟨he, h'.below C hb⟩)
theorem PairP.bad2 (C : RequestI w RA) (h : PairP RA w g1 g2 s1 s2 W) : Calls Tryd.prog 10 #[.pointer (some ⟨g2, 0, none⟩)] W fun e W' => e = .returned (.int .i64 (s2.bad : Int)) ∧ PairP RA w g1 g2 s1 s2 W' := by
  have h' := h
  obtain ⟨⟨F1, F2, a1, b1, hd, a2, b2⟩, hB⟩ := h
  exact (C.bad b1).mono (by rintro e W' ⟨he, hb⟩; exact ⟨he, h'.below C hb⟩)
theorem PairP.idle1 (C : RequestI w RA) (h : PairP RA w g1 g2 s1 s2 W) : Calls Tryd.prog 11 #[.pointer (some ⟨g1, 0, none⟩)] W fun e W' => e = .returned (.bool (decide (s1.bad = 0) && s1.buf == [])) ∧ PairP RA w g1 g2 s1 s2 W' := by
  have h' := h
  obtain ⟨⟨F1, F2, a1, b1, hd, a2, b2⟩, hB⟩ := h
  exact (C.idle a1).mono (by rintro e W' ⟨he, hb⟩; exact ⟨he, h'.below C hb⟩)
theorem PairP.idle2 (C : RequestI w RA) (h : PairP RA w g1 g2 s1 s2 W) : Calls Tryd.prog 11 #[.pointer (some ⟨g2, 0, none⟩)] W fun e W' => e = .returned (.bool (decide (s2.bad = 0) && s2.buf == [])) ∧ PairP RA w g1 g2 s1 s2 W' := by
  have h' := h
  obtain ⟨⟨F1, F2, a1, b1, hd, a2, b2⟩, hB⟩ := h
  exact (C.idle b1).mono (by rintro e W' ⟨he, hb⟩; exact ⟨he, h'.below C hb⟩)
theorem PairP.rest1 (C : RequestI w RA) (h : PairP RA w g1 g2 s1 s2 W) : Calls Tryd.prog 12 #[.pointer (some ⟨g1, 0, none⟩)] W fun e W' => e = .returned (S s1.buf) ∧ PairP RA w g1 g2 s1.rest s2 W' := by
  obtain ⟨⟨F1, F2, a1, b1, hd, a2, b2⟩, hB⟩ := h
  refine (C.rest a1).mono ?_
  rintro e W' ⟨he, F', h1', hm⟩
  have ha := hm.apart (G := F2) (fun k hk => ⟨(C.lt b1).2 k hk, fun hf => hd k hf hk⟩)
  exact ⟨he, ⟨F', F2, h1', C.same b1 hm.size ha.1, fun k hf hk => (ha.2 k hk).2 hf, hm.from a2 hB.size, b2⟩, hB.trans (hm.below a2 hB.size)⟩
theorem PairP.rest2 (C : RequestI w RA) (h : PairP RA w g1 g2 s1 s2 W) : Calls Tryd.prog 12 #[.pointer (some ⟨g2, 0, none⟩)] W fun e W' => e = .returned (S s2.buf) ∧ Below w.heap.size w W' := by
  obtain ⟨⟨F1, F2, a1, b1, hd, a2, b2⟩, hB⟩ := h
  refine (C.rest b1).mono ?_
  rintro e W' ⟨he, F', h1', hm⟩
  exact ⟨he, hB.trans (hm.below b2 hB.size)⟩
end
/-- How it stands: a request waits, or all are told. -/
def Coll (RA : World → (Nat → Prop) → Nat → PSt → Prop) (w : World) (g b7 : Nat) (L : List Rq) (p' : PSt) (b : Bool) (lv : Value) (W : World) : Prop := if b = true then CollT RA w g b7 L p' lv W else CollF RA w g L p' lv W
section
variable {RA : World → (Nat → Prop) → Nat → PSt → Prop} {w W W' : World} {g b7 : Nat} {L : List Rq} {p' : PSt} {lv : Value}
theorem eleRp : EleK Tryd.prog 30 7 := eleK_of (z := .agg zeroR) (n := 104) (by kernel_rfl) (by omega) rfl
theorem rq_one (m p q : List UInt8) (v : Nat) (a : Option Addr) (n c : Nat) (bd : List UInt8) (cl : Bool) : (rqCells m p q v (.slice a n c) bd cl).all (·.oneCell') = true := by
  rw [← Array.all_toList]; rfl
theorem zr_one : zeroR.all (·.oneCell') = true := by
  rw [← Array.all_toList]; rfl
theorem CollM.both (C : RequestI w RA) (h : CollM RA w g b7 L p' lv W) (hw : w.heap.size ≤ b7) :
    Calls Tryd.prog 8 #[.pointer (some ⟨g, 0, none⟩)] W fun e W' => ∃ cs b, e = .returned (.tuple #[.agg cs, .bool b]) ∧ cs.size = 7 ∧ cs.all (·.oneCell') = true ∧ (∃ cs', Row W' b7 cs' 30 ∧ cs'.size = 7) ∧
      ∀ W5, Row W5 b7 cs 30 → Keeps b7 W' W5 → Coll RA w g b7 L p' b lv W5 := by
  rcases h.next C hw with h1 | ⟨r, h1⟩
  · refine h1.mono ?_
    rintro e W' ⟨rfl, hr, hk⟩
    exact ⟨zeroR, false, rfl, rfl, zr_one, hr, fun W5 a b => hk W5 a b⟩
  · refine h1.mono ?_
    rintro e W' ⟨a, c, rfl, hr, hk⟩
    exact ⟨_, true, rfl, rfl, rq_one .., hr, fun W5 a b => hk W5 a b⟩
theorem coll_start (C : RequestI w RA) {s : List UInt8} (hs : s.length ≤ 20000) (h : OneK RA w g ⟨s, 0⟩ (fun _ => False) W) (hd : Drains ⟨s, 0⟩ L p') :
    Calls Tryd.prog 8 #[.pointer (some ⟨g, 0, none⟩)] W fun e W' => ∃ cs b, e = .returned (.tuple #[.agg cs, .bool b]) ∧ cs.size = 7 ∧ cs.all (·.oneCell') = true ∧ w.heap.size ≤ W'.heap.size ∧
      ∀ W5, Row W5 W'.heap.size cs 30 → Keeps W'.heap.size (W'.alloc (.cells zeroR 30)) W5 → Coll RA w g W'.heap.size L p' b (.slice none 0 0) W5 := by
  cases hd with
  | stop hn =>
    refine (h.nextNone C (show s.length ≤ _ by omega) hn).mono ?_
    rintro e W' ⟨rfl, h1, _⟩
    refine ⟨zeroR, false, rfl, rfl, zr_one, h1.bel.size, fun W5 _ hk => ?_⟩
    have hB : Below W'.heap.size W' (W'.alloc (.cells zeroR 30)) := (Below.refl _ W').alloc (Nat.le_refl _) _
    exact coll_zero C ((h1.grow C hB).keeps C (.inr ⟨Nat.le_refl _, by rw [alloc_size]; omega⟩) h1.bel.size hk) rfl
  | @more _ u _ r rest hn hd' =>
    have hl := (next_len hn).2.2.1
    dsimp only at hl
    refine (h.nextSome C (show s.length ≤ _ by omega) hn).mono ?_
    rintro e W' ⟨a, c, gf, rfl, hf, h1, _, hgf⟩
    refine ⟨_, true, rfl, rfl, rq_one .., h1.bel.size, fun W5 hr hk => ?_⟩
    have hB : Below W'.heap.size W' (W'.alloc (.cells zeroR 30)) := (Below.refl _ W').alloc (Nat.le_refl _) _
    have h5 := (h1.grow C hB).keeps C (.inr ⟨Nat.le_refl _, by rw [alloc_size]; omega⟩) h1.bel.size hk
    have hkk : ∀ k, k < W'.heap.size → W5.heap[k]? = W'.heap[k]? := fun k hk' => (hk.block k (by rw [alloc_size]; omega) (by omega)).trans (heap_alloc_old W' _ hk')
    show CollT RA w g W'.heap.size (r :: rest) p' (.slice none 0 0) W5
    refine ⟨[], FK r.fs gf, u, r, rest, a, c, gf, (reqs_nil _ _).mono (fun _ h => h.elim) (fun k hk' => h5.lt k (.inl (.inr hk'))), fun h => ?_, h5.mono (fun k hk' => ?_), hd', rfl, hr, hf.same (fun hne => hkk gf (hgf.resolve_left hne).2), ?_, by omega⟩
    · have h2 := (hgf.resolve_left h.1).2; have h3 := h.2; omega
    · rcases hk' with h2 | rfl
      · exact .inl (.inr h2)
      · exact .inr ⟨Nat.le_refl _, by rw [alloc_size]; omega⟩
    · by_cases hne : r.fs = []
      · exact .inl hne
      · exact .inr ⟨⟨hne, rfl⟩, fun e => by cases e⟩
end
end Go.Proofs.YtplajlccnnbifaaDoor
