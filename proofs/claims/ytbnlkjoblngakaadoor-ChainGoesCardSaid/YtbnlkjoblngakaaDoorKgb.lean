/- What steps around ChainGoes' handler answer, and what comes to it (stage 13). -/
import Derived.Test.YtbnlkjoblngakaaDoorKga
namespace Go.Proofs.YtbnlkjoblngakaaDoor
open Go.RowKit Go.Shelf

def KeepP (W : World) (r : Rq) (l : List Stp) (c : Int) (body : Tx) (xs : Fds) (bg : Nat) (e : Ending) (w2 : World) : Prop :=
  Rest (fun j => j = bg) W w2 ∧ match (goS r.fs r.body l r.p).2.2 with
    | some x => ∃ V', e = .returned (rpV (x.1 : Int) V' x.2) ∧ FO W.heap.size V' (addsS r.fs (l.take (goS r.fs r.body l r.p).1)) w2 ∧ Row w2 bg #[.slice none 0 0] 38
    | none => ∃ V3 V1 gg cap g1, e = .returned (rpV c V3 body) ∧ FO W.heap.size V3 (xs ++ addsS r.fs l) w2 ∧ Row w2 bg #[.slice (some ⟨gg, 0, none⟩) 1 cap] 38 ∧
        (∀ j v, (rqC { r with p := (goS r.fs r.body l r.p).2.1 } V1)[j]? = some v → w2.cell? ⟨gg, j, none⟩ = some v) ∧ FA w2 V1 r.fs g1 0
theorem FO.restOwn {base : Nat} {V : Value} {fs : Fds} {w w' : World} {N : Nat → Prop} (h : FO base V fs w) (hr : Rest N w w') (hN : ∀ k, V.ownBlock = some k → ¬ N k) : FO base V fs w' := by
  unfold FO at h ⊢
  rcases h.2 with hn | ⟨g, cap, cur, h1, h2, h3, h4⟩
  · exact ⟨h.1, .inl hn⟩
  · exact ⟨h.1, .inr ⟨g, cap, cur, h1, h2, (by rw [hr.rest g (Array.getElem?_eq_some_iff.1 h3).1 (hN g (by rw [h1]; rfl))]; exact h3), h4⟩⟩
theorem FA.restOwn {w w' : World} {V : Value} {fs : Fds} {b o : Nat} {N : Nat → Prop} (h : FA w V fs b o) (hr : Rest N w w') (hN : fs ≠ [] → ¬ N b) : FA w' V fs b o :=
  ⟨h.len, h.index, fun i f hf => by
    have hne : fs ≠ [] := fun e => by rw [e] at hf; simp at hf
    obtain ⟨h1, h2⟩ := h.cell i f hf
    exact ⟨hr.cell (hN hne) h1, hr.cell (hN hne) h2⟩, h.form⟩
theorem FA.addr {w : World} {a : Option Addr} {n c : Nat} {fs : Fds} {b o : Nat} (h : FA w (.slice a n c) fs b o) (hne : fs ≠ []) : a = some ⟨b, o, none⟩ := by
  obtain ⟨a', c', hv⟩ := h.form
  have hix := h.index 0 (List.length_pos_iff.2 hne) w
  simp only [Value.slice.injEq] at hv
  obtain ⟨-, rfl, -⟩ := hv
  cases fs with
  | nil => exact absurd rfl hne
  | cons f r =>
    cases a with
    | none => simp [Instr.indexAt, boundsPanic, go_sem] at hix
    | some a =>
      simp [Instr.indexAt, Addr.add, go_sem] at hix
      rw [hix]
theorem keep_does {wk w' : World} {g : Nat} {lb : Array Value} {l : List Stp} {bg bx : Nat} (h : DoesH wk w' g lb l 15 #[.pointer (some ⟨bg, 0, none⟩), .pointer (some ⟨bx, 0, none⟩)]) {W : World} (hs : w'.heap.size ≤ W.heap.size)
    (hk : ∀ k, wk.heap.size ≤ k → k < w'.heap.size → W.heap[k]? = w'.heap[k]?) (r : Rq) (V : Value) (b o : Nat) (hA : FA W V r.fs b o) (hr : SmallR r)
    (c : Int) (ax : Option Addr) (nx cx : Nat) (body : Tx) (xs : Fds) (b0 o0 : Nat) (hX : FA W (.slice ax nx cx) xs b0 o0) (hl : xs.length ≤ 10) (hrow : Row W bx (rpC c (.slice ax nx cx) body) 27)
    (hbg : Row W bg #[.slice none 0 0] 38) (hne : bg ≠ bx) (hgk : bg < wk.heap.size) (hbb : r.fs ≠ [] → b ≠ bg) (hb0 : xs ≠ [] → b0 ≠ bg) :
    Calls Tryd.prog g (#[rqV r V] ++ lb) W (KeepP W r l c body xs bg) := by
  refine h W hs hk r V b o hA hr _ ?_
  unfold KeepP
  have hbW := hbg.lt
  cases hg : (goS r.fs r.body l r.p).2.2 with
  | some x => exact fun W' V' hB hF => ⟨Rest.of_below hB, V', rfl, hF, hbg.below hB hbW⟩
  | none =>
    intro N W1 V1 hB hN hF1
    obtain ⟨g1, hA1, hg1⟩ := FO.fa hF1
    obtain ⟨av, qv, hv⟩ := hA1.form
    subst hv
    have hg1b := hbg.below hB hbW
    refine (keep_any { r with p := (goS r.fs r.body l r.p).2.1 } av r.fs.length qv bg bx c ax nx cx body W1 hg1b (hrow.below hB hrow.lt) hne).mono ?_
    rintro e W2 ⟨rfl, hR, gg, cap, hgr, hgg1, hgg2, hgc⟩
    have hsz := hB.size
    refine ⟨c, .slice ax nx cx, xs, body, b0, o0, rfl, (hX.below hB).restOwn hR (fun hne => hb0 hne), by omega, ?_, hR.size, fun k hk' => ?_, fun W3 V3 hR3 hF => ?_⟩
    · by_cases he : xs = []
      · exact .inl he
      · exact .inr fun hn => by have := (hN _ hn).1; have := hX.lt he; omega
    · rcases hk' with h1 | h1 | h1
      · exact hR.rest k (hN k h1).2.1 (fun e => by have := (hN k h1).1; omega)
      · exact hR.rest k (by omega) (by omega)
      · have := hA.lt h1.1
        have := hbb h1.1
        exact hR.rest k (by omega) (by omega)
    · have hNg : ¬ N bg := fun e => by have := (hN bg e).1; omega
      have hNgg : ¬ N gg := fun e => by have := (hN gg e).2.1; omega
      have hA2 : FA W2 (.slice av r.fs.length qv) r.fs g1 0 := hA1.restOwn hR (fun hne => by
        rcases hg1 with h0 | h0
        · exact absurd h0 hne
        · omega)
      have hgr3 : Row W3 bg #[.slice (some ⟨gg, 0, none⟩) 1 cap] 38 := by
        unfold Row; rw [hR3.rest bg hgr.lt hNg]; exact hgr
      refine ⟨?_, V3, .slice av r.fs.length qv, gg, cap, g1, rfl, hF, hgr3, fun j v hv => hR3.cell hNgg (hgc j v hv), hA2.restOwn hR3 (fun hne => ?_)⟩
      · exact (((Rest.of_below (N := fun j => j = bg) (hB.mono (Nat.le_refl _))).trans hR).trans (hR3.mono (N' := fun k => W.heap.size ≤ k) (fun k _ h1 => (hN k h1).1))).mono fun k hk h => by
          rcases h with (h | h) | h
          · exact h
          · exact h
          · omega
      · intro hn
        have h5 := (hN g1 hn).2.2
        rw [hA1.addr hne] at h5
        exact h5 rfl
end Go.Proofs.YtbnlkjoblngakaaDoor
