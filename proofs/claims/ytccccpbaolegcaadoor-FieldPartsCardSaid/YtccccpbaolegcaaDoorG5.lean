/- The landed package's Has and Get walked. -/
import Derived.Test.YtccccpbaolegcaaDoorG4
import Derived.Test.YtccccpbaolegcaaDoorF8
namespace Go.Proofs.YtccccpbaolegcaaDoor
open Go.RowKit Go.Shelf
attribute [local go_sem] store_one Oper.semAt_some S_match S_store

/-- What stands about: the word, and the answer. -/
structure Hs (w : World) (t : List UInt8) (v : Bool) (W : World) : Prop where
  txt : Row W w.heap.size #[S t] 9
  ans : Row W (w.heap.size + 1) #[.bool v] 4
  bel : Below w.heap.size w W
theorem Hs.below {w W W' : World} {t : List UInt8} {v : Bool} (h : Hs w t v W) (hb : Below W.heap.size W W') : Hs w t v W' :=
  ⟨h.txt.below hb h.txt.lt, h.ans.below hb h.ans.lt, h.bel.trans (hb.mono h.bel.size)⟩
theorem Hs.grown {w W W' : World} {t : List UInt8} {v : Bool} {row : Option Nat} (h : Hs w t v W) (hg : W.grownBy W' row) (hr : ∀ k, row = some k → w.heap.size + 2 ≤ k) : Hs w t v W' :=
  ⟨row_grown h.txt hg (fun e => by have := hr _ e.symm; omega), row_grown h.ans hg (fun e => by have := hr _ e.symm; omega), h.bel.grown hg h.bel.size (fun k e => by have := hr k e; omega)⟩
theorem Hs.set {w W : World} {t : List UInt8} {v : Bool} (h : Hs w t v W) (u : Bool) : Hs w t u (W.setCell ⟨w.heap.size + 1, 0, none⟩ (.bool u)) :=
  ⟨h.txt.other (by show w.heap.size ≠ w.heap.size + 1; omega), h.ans.set 0 _, h.bel.setCell (p := ⟨w.heap.size + 1, 0, none⟩) (by show _ ≤ w.heap.size + 1; omega) _⟩
theorem has_end {w W : World} {t : List UInt8} {v x : Bool} {D : Nat} {tmps : Array Value} (h : Hs w t v W) (hv : v = x) (hd : W.heap[D]? = some (.deferred (some []))) (hD : w.heap.size + 2 ≤ D)
    (ht : tmps[4]? = some (.pointer (some ⟨w.heap.size + 1, 0, none⟩))) :
    bodyPostM Fence.wide 5 Tryd.prog Tryd.f14 (fun e w' => e = .returned (.bool x) ∧ Below w.heap.size w w') .ret { tmps := tmps, defers := [{ target := .collected D, args := #[] }] } W := by
  subst hv
  have ca := cell_of_row W _ 0 _ 4 (0, 0) h.ans
  refine ⟨by simp, .inl ⟨_, _, rfl, run_takeDeferred hd, ?_⟩⟩
  have hc : (W.putObj D (.deferred none)).cell? ⟨w.heap.size + 1, 0, none⟩ = some (.bool v) :=
    cell_kept ca (grownBy_putObj' _ _ (.deferred none)) (fun r e => by cases e; exact ⟨_, hd, rfl⟩)
  have hsz := h.bel.size
  refine ⟨.bool v, ?_, rfl, h.bel.grown (grownBy_putObj' _ _ _) hsz (fun k e => by cases e; omega)⟩
  simp [results, Tryd.f14, go_sem, hc, ht]
theorem any_next {q : List UInt8 → Bool} {pre : List (List UInt8)} {x : List UInt8} (h : pre.any q = false) : (pre ++ [x]).any q = q x := by
  rw [List.any_append, h, Bool.false_or]; simp
theorem any_pre {q : List UInt8 → Bool} {pre L : List (List UInt8)} (hp : pre <+: L) (h : pre.any q = true) : L.any q = true := by
  obtain ⟨r, rfl⟩ := hp
  rw [List.any_append, h, Bool.true_or]
set_option maxRecDepth 100000 in
set_option maxHeartbeats 2000000 in
theorem has14_any (s t : List UInt8) (hs : s.length ≤ 100000) (ht : t.length ≤ 100000) (w : World) : Calls Tryd.prog 14 #[S s, S t] w fun e w' => e = .returned (.bool (hasF s t)) ∧ Below w.heap.size w w' := by
  have hle : ∀ p ∈ partsF s, p.length ≤ 100000 := fun p hp => by have := parts_le hp; omega
  have hE := eachI s hs
  have HE := Lib.hid (And.intro hE (And.intro hle ht))
  clear hE hle hs ht
  obtain ⟨W1, hW1⟩ : ∃ W1, W1 = (w.alloc (.cells #[S t] 9)).alloc (.cells #[.bool false] 4) := ⟨_, rfl⟩
  have H1 : Hid (Hs w t false W1) := Lib.hid (by
    rw [hW1]
    refine ⟨(row_new w _ _).alloc _, ?_, ((Below.refl _ w).alloc (Nat.le_refl _) _).alloc (by simp) _⟩
    have := row_new (w.alloc (.cells #[S t] 9)) #[.bool false] 4
    rw [alloc_size] at this; exact this)
  refine (callsIn_wide (n := 5)).1 (callsIn_of_wp_marks Tryd.func14 rfl trivial ?_ rfl)
  simp only [Tryd.ntmps14, List.size_toArray, List.length_cons, List.length_nil, Nat.reduceAdd, Nat.reduceSub, Array.replicate_succ, Array.replicate_zero, List.push_toArray, List.append_toArray, List.nil_append, List.cons_append]
  rw [wpIn_wide]
  go_wp2_with fail
  rw [← hW1]
  clear hW1
  refine (HE.out.1 _).mono ?_
  rintro e W6 ⟨gf, lb, K, Kb, rfl, hB, hKb, eg, hseq⟩
  have H6 : Hid (Hs w t false W6 ∧ (∀ r, Kb r → w.heap.size + 2 ≤ r ∧ r < W6.heap.size) ∧ w.heap.size + 2 ≤ W6.heap.size) := Lib.hid ⟨H1.out.below hB, fun r hr => by have := hKb r hr; have := H1.out.ans.lt; omega, by have := hB.size; have := H1.out.ans.lt; omega⟩
  clear hB H1 hKb
  go_wp2
  rw [← wpIn_wide (n := 5)]
  refine wpIn_rangeFunc_L2 (gf := gf) (lb := lb) rfl eg hseq (fun r hr => (H6.out.2.1 r hr).2) (fun W hb => hb) (fun _ => rfl)
    (fun pre W => (pre.any fun p => alikeF p t) = false ∧ Hs w t false W) (fun c pre W => c = .ret ∧ (pre.any fun p => alikeF p t) = true ∧ Hs w t true W)
    ?hI ?hIx ⟨rfl, H6.out.1⟩ ?round ?done ?stop
  case hI =>
    rintro pre W W' row ⟨hp, h⟩ hg hr
    exact ⟨hp, h.grown hg (fun k e => by have := hr k e; have := H6.out.2.2; omega)⟩
  case hIx =>
    rintro c pre W W' row ⟨hc, hp, h⟩ hg hr
    exact ⟨hc, hp, h.grown hg (fun k e => by have := hr k e; have := H6.out.2.2; omega)⟩
  case round =>
    intro l pre x W1 Kc hpx hKc
    unfold encS
    gi_wp2
    rintro W ⟨hp, hK⟩ hsz
    have hmem : x ∈ partsF s := hpx.subset (List.mem_append.2 (.inr (List.mem_singleton.2 rfl)))
    have hal := alike16_any x t (HE.out.2.1 x hmem) HE.out.2.2 W
    have hnx := any_next (q := fun p => alikeF p t) (x := x) hp
    have ct := cell_of_row W _ 0 _ 9 (0, 0) hK.txt
    have HA := Lib.hid hal
    have HN := Lib.hid (And.intro hK hnx)
    have HZ : Hid (w.heap.size + 2 ≤ W6.heap.size ∧ W6.heap.size ≤ W.heap.size) := Lib.hid ⟨H6.out.2.2, by omega⟩
    clear hal hnx hp hpx hmem hK
    gi_wp2_with fail
    refine ⟨trivial, ((callsIn_wide.2 HA.out).inRound l).mono ?_⟩
    rintro e W2 ⟨rfl, hD⟩
    have hK2 := HN.out.1.below hD.below
    have hkept : Kept (fun r => Kb r ∨ (W6.heap.size ≤ r ∧ r < W6.heap.size + (K + 2))) W W2 := ⟨by rw [hD.heap]; exact Nat.le_refl _, fun r _ => by rw [hD.heap]⟩
    cases hb : alikeF x t with
    | true =>
      have c4 := cell_of_row W2 _ 0 _ 4 (0, 0) hK2.ans
      have f4 := Row.frozen hK2.ans 0
      have HF := Lib.hid (And.intro hkept (And.intro hK2 (HN.out.2.trans hb)))
      clear hkept hK2 hD hb ct
      gi_wp2
      have hg := grown_cell W2 (w.heap.size + 1) 0 (.bool true)
      refine ⟨HF.out.1.trans ⟨hg.size, fun r hr => ?_⟩, rfl, HF.out.2.2, HF.out.2.1.set true⟩
      have hne : r ≠ w.heap.size + 1 := by
        have := HZ.out
        rcases hr with hr | hr
        · have := H6.out.2.1 r hr; omega
        · omega
      exact Below.heap_setCell _ _ _ _ hne
    | false =>
      have HF := Lib.hid (And.intro hkept (And.intro hK2 (HN.out.2.trans hb)))
      clear hkept hK2 hD hb ct
      gi_wp2
      exact ⟨HF.out.1, HF.out.2.2, HF.out.2.1⟩
  case done =>
    rintro W ⟨hp, hK⟩ hD
    have c4 := cell_of_row W _ 0 _ 4 (0, 0) hK.ans
    have f4 := Row.frozen hK.ans 0
    have H7 := Lib.hid (And.intro hp (And.intro hK hD))
    clear hp hK hD
    go_wp2
    exact has_end (H7.out.2.1.set false) H7.out.1.symm ((Below.heap_setCell _ _ _ _ (by show W6.heap.size ≠ w.heap.size + 1; have := H6.out.2.2; omega)).trans H7.out.2.2) H6.out.2.2 rfl
  case stop =>
    rintro c pre W hpre ⟨rfl, hp, hK⟩ hD
    have H7 := Lib.hid (And.intro (any_pre hpre hp) (And.intro hK hD))
    clear hp hK hD
    gi_wp2
    exact has_end H7.out.2.1 H7.out.1.symm H7.out.2.2 H6.out.2.2 rfl

/-- Of the first k fields, from the front. -/
def fwdR (nm vl : Nat → List UInt8) (t : List UInt8) : Nat → List UInt8 × Nat
  | 0 => ([], 0)
  | k + 1 => if alikeF (nm k) t = true then (if (fwdR nm vl t k).2 = 0 then vl k else (fwdR nm vl t k).1, (fwdR nm vl t k).2 + 1) else fwdR nm vl t k
theorem fwdR_le (nm vl : Nat → List UInt8) (t : List UInt8) : ∀ k, (fwdR nm vl t k).2 ≤ k
  | 0 => Nat.le_refl _
  | k + 1 => by
    have := fwdR_le nm vl t k
    rw [fwdR]; split
    · show (fwdR nm vl t k).2 + 1 ≤ k + 1; omega
    · omega
theorem fwdR_nil (nm vl : Nat → List UInt8) (t : List UInt8) : ∀ k, (fwdR nm vl t k).2 = 0 → (fwdR nm vl t k).1 = []
  | 0, _ => rfl
  | k + 1, h => by
    rw [fwdR] at h ⊢
    split at h
    · cases h
    · rename_i hn; rw [if_neg hn]; exact fwdR_nil nm vl t k h
/-- From the front and from behind it is the same. -/
theorem fwd_get (nm vl : Nat → List UInt8) (t : List UInt8) (n : Nat) : ∀ k j, k + j = n →
    getR nm vl t n n = (if (fwdR nm vl t k).2 = 0 then (getR nm vl t n j).1 else (fwdR nm vl t k).1, (fwdR nm vl t k).2 + (getR nm vl t n j).2)
  | 0, j, h => by
    obtain rfl : j = n := by omega
    simp [fwdR]
  | k + 1, j, h => by
    have ih := fwd_get nm vl t n k (j + 1) (by omega)
    have hk : n - 1 - j = k := by omega
    rw [ih, getR, hk, fwdR]
    by_cases ha : alikeF (nm k) t = true
    · rw [if_pos ha, if_pos ha]
      by_cases h0 : (fwdR nm vl t k).2 = 0
      · simp [h0]; omega
      · simp [h0]; omega
    · rw [if_neg ha, if_neg ha]
theorem fwd_all (nm vl : Nat → List UInt8) (t : List UInt8) (n : Nat) : fwdR nm vl t n = getR nm vl t n n := by
  have h := fwd_get nm vl t n n 0 (by omega)
  rw [h, getR]
  by_cases h0 : (fwdR nm vl t n).2 = 0
  · rw [if_pos h0, Nat.add_zero, ← fwdR_nil nm vl t n h0]
  · rw [if_neg h0, Nat.add_zero]
set_option maxRecDepth 100000 in
set_option maxHeartbeats 1000000 in
theorem get12_any (V : Value) (n b o : Nat) (nm vl : Nat → List UInt8) (t : List UInt8) (ht : t.length ≤ 100000) (w : World) (hV : Flds w V n b o nm vl) :
    Calls Tryd.prog 12 #[V, S t] w fun e w' => e = .returned (.tuple #[S (getR nm vl t n n).1, .int .i64 ((getR nm vl t n n).2 : Int)]) ∧ Below w.heap.size w w' := by
  rw [← fwd_all]
  have hlen : ∀ w, (Builtin.len_ #[36] 3 #[V]).run Tryd.prog w = .ok (.int .i64 (n : Int)) w := by
    obtain ⟨⟨v, hcm, _⟩, _⟩ := hV
    exact hcm.len 3
  have HV := Lib.hid (And.intro hV ht)
  have hfew := hV.few
  clear hV ht
  go_enter Tryd.func12, Tryd.ntmps12
  go_wp2
  go_loopw [4, 5, 10] (fun vv cv iv wr => ∃ k : Nat, k ≤ n ∧ vv = S (fwdR nm vl t k).1 ∧ cv = .int .i64 ((fwdR nm vl t k).2 : Int) ∧ iv = .int .i64 (k : Int) ∧ Below w.heap.size w wr) (fun _ _ iv _ => n - (intOf iv).toNat)
  case atStart => exact ⟨0, Nat.zero_le _, rfl, rfl, rfl, Below.refl _ _⟩
  case round =>
    obtain ⟨k, hk, rfl, rfl, rfl, hB⟩ := hrel
    by_cases hlt : k < n
    · have hVr := HV.out.1.below hB
      obtain ⟨⟨v, hcm, hvv⟩, _, hlong⟩ := hVr
      have hix := hcm.index k hlt
      have c0 : wr.cell? ⟨b, o + k * 2, none⟩ = some (S (nm k)) := by
        have := hcm.cell k 0 hlt (by omega)
        rw [Nat.add_zero] at this
        rw [this, (hvv k hlt).1]
      have c1 : wr.cell? ⟨b, o + k * 2 + 1, none⟩ = some (S (vl k)) := by
        have := hcm.cell k 1 hlt (by omega)
        rw [this, (hvv k hlt).2]
      have HA := Lib.hid fun W => alike16_any (nm k) t (hlong k hlt) HV.out.2 W
      have hfl := fwdR_le nm vl t k
      have HB := Lib.hid hB
      have hgr : fwdR nm vl t (k + 1) = if alikeF (nm k) t = true then (if (fwdR nm vl t k).2 = 0 then vl k else (fwdR nm vl t k).1, (fwdR nm vl t k).2 + 1) else fwdR nm vl t k := rfl
      have HG := Lib.hid hgr
      clear hgr hcm hvv hlong hB
      generalize o + k * 2 = q at *
      obtain ⟨W2, hW2⟩ : ∃ W2, W2 = wr.alloc (.cells #[S (nm k), S (vl k)] 23) := ⟨_, rfl⟩
      obtain ⟨g, hg⟩ : ∃ g, g = wr.heap.size := ⟨_, rfl⟩
      have hr2 : Row W2 g #[S (nm k), S (vl k)] 23 := by rw [hW2, hg]; exact row_new wr _ _
      have hB2 : Below w.heap.size w W2 := by rw [hW2]; exact HB.out.alloc HB.out.size _
      have H2 := Lib.hid (And.intro hr2 hB2)
      clear hr2 hB2
      generalize hfk : fwdR nm vl t k = fk at *
      obtain ⟨fv, fc⟩ := fk
      clear hfk
      have hw1 : IntKind.i64.wrap ((fc : Int) + 1) = (fc : Int) + 1 := by rw [IntKind.wrap_i64]; have : fc ≤ k := hfl; omega
      have hw2 : IntKind.i64.wrap ((k : Int) + 1) = (k : Int) + 1 := by rw [IntKind.wrap_i64]; omega
      have HF : Hid (fc ≤ k) := Lib.hid hfl
      clear hfl
      go_wp2_with fail
      rw [← hg, ← hW2]
      clear hg hW2 c0 c1 hix
      refine (HA.out W2).mono ?_
      rintro e W3 ⟨rfl, hD⟩
      have hr3 := H2.out.1.below hD.below H2.out.1.lt
      have c3 := cell_of_row W3 _ 1 _ 23 (0, 0) hr3
      have H3 : Hid (Below w.heap.size w W3) := Lib.hid (H2.out.2.trans (hD.below.mono H2.out.2.size))
      clear hD hr3 H2
      cases hb : alikeF (nm k) t with
      | true =>
        have HG2 : Hid (fwdR nm vl t (k + 1) = (if fc = 0 then vl k else fv, fc + 1)) := Lib.hid (by rw [HG.out, if_pos hb])
        clear hb
        by_cases h0 : fc = 0
        · have hz : ((fc : Int) == 0) = true := by rw [beq_iff_eq]; omega
          have hz' : (fc == 0) = true := by rw [beq_iff_eq]; exact h0
          have HG3 : Hid (fwdR nm vl t (k + 1) = (vl k, fc + 1)) := Lib.hid (by rw [HG2.out, if_pos h0])
          clear h0
          go_wp2
          exact ⟨⟨k + 1, by omega, by rw [HG3.out], by rw [HG3.out]; go_num, by go_num, H3.out⟩, by simp [intOf]; omega⟩
        · have hz : ((fc : Int) == 0) = false := by rw [beq_eq_false_iff_ne]; omega
          have hz' : (fc == 0) = false := by rw [beq_eq_false_iff_ne]; exact h0
          have hz2 : decide (fc = 0) = false := decide_eq_false h0
          have HG3 : Hid (fwdR nm vl t (k + 1) = (fv, fc + 1)) := Lib.hid (by rw [HG2.out, if_neg h0])
          clear h0
          go_wp2
          exact ⟨⟨k + 1, by omega, by rw [HG3.out], by rw [HG3.out]; go_num, by go_num, H3.out⟩, by simp [intOf]; omega⟩
      | false =>
        have HG2 : Hid (fwdR nm vl t (k + 1) = (fv, fc)) := Lib.hid (by rw [HG.out, if_neg (by rw [hb]; exact Bool.false_ne_true)])
        clear hb
        go_wp2
        exact ⟨⟨k + 1, by omega, by rw [HG2.out], by rw [HG2.out], by go_num, H3.out⟩, by simp [intOf]; omega⟩
    · obtain rfl : k = n := by omega
      have HB := Lib.hid hB
      clear hB
      go_wp2
      go_ret2
      exact ⟨rfl, HB.out⟩

/-- The landed package does what is asked. -/
theorem fieldI : FieldI where
  token := fun s w hs => (token15_any s hs w).mono (by rintro e w' ⟨h, rfl⟩; exact ⟨h, Below.refl _ _⟩)
  parse := fun s w hs => parse10_any s hs w
  alike := fun a b w ha hb => (alike16_any a b ha hb w).mono (by rintro e w' ⟨h, hd⟩; exact ⟨h, hd.below⟩)
  has := fun s t w hs ht => has14_any s t hs ht w
  get := fun V n b o nm vl t w ht hV => get12_any V n b o nm vl t ht w hV
  each := fun s w hs => eachI s hs w
end Go.Proofs.YtccccpbaolegcaaDoor
