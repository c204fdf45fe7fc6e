/- The reference's Has and Get walked. -/
import Derived.Test.YtccccpbaolegcaaDoorF5
import Derived.Test.YtccccpbaolegcaaDoorGen4
namespace Go.Proofs.YtccccpbaolegcaaDoor
open Go.RowKit
attribute [local go_sem] store_one S_match S_store

def hasF (s w : List UInt8) : Bool := (partsF s).any fun p => alikeF p w
theorem dropWhile_le (p : UInt8 → Bool) (l : List UInt8) : (l.dropWhile p).length ≤ l.length := (List.dropWhile_sublist (p := p)).length_le
theorem bareF_le (s : List UInt8) : (bareF s).length ≤ s.length := by
  unfold bareF
  rw [List.length_reverse]
  have h1 := dropWhile_le blankB (s.dropWhile blankB).reverse
  rw [List.length_reverse] at h1
  have h2 := dropWhile_le blankB s
  omega
theorem keep_le (c : List UInt8) : ∀ p ∈ keepF c, p.length ≤ c.length := by
  intro p hp
  unfold keepF at hp
  split at hp
  · cases hp
  · rw [List.mem_singleton.1 hp]; exact bareF_le c
theorem pts_le : ∀ (r cur : List UInt8), ∀ p ∈ ptsF cur r, p.length ≤ cur.length + r.length
  | [], cur, p, hp => by rw [ptsF] at hp; have := keep_le cur p hp; simp; omega
  | c :: r, cur, p, hp => by
    rw [ptsF] at hp
    split at hp
    · rcases List.mem_append.1 hp with h | h
      · have := keep_le cur p h; omega
      · have := pts_le r [] p h
        rw [List.length_nil] at this
        rw [List.length_cons]; omega
    · have := pts_le r (cur ++ [c]) p hp
      rw [List.length_append, List.length_singleton] at this
      rw [List.length_cons]; omega
theorem parts_le {s p : List UInt8} (h : p ∈ partsF s) : p.length ≤ s.length := by
  have := pts_le s [] p h
  rw [List.length_nil] at this; omega
theorem any_take_next {q : List UInt8 → Bool} {l : List (List UInt8)} {i : Nat} {x : List UInt8} (hx : l[i]? = some x) (h : (l.take i).any q = false) : (l.take (i + 1)).any q = q x := by
  obtain ⟨hi, rfl⟩ := List.getElem?_eq_some_iff.1 hx
  rw [List.take_succ_eq_append_getElem hi, List.any_append, h, Bool.false_or]; simp
set_option maxRecDepth 100000 in
set_option maxHeartbeats 1000000 in
theorem has_any (s t : List UInt8) (hs : s.length ≤ 100000) (ht : t.length ≤ 100000) (w : World) : Calls Tryd.prog 20 #[S s, S t] w fun e w' => e = .returned (.bool (hasF s t)) ∧ Below w.heap.size w w' := by
  have HP := Lib.hid (parts_any s hs w)
  have hpl : ∀ p ∈ partsF s, p.length ≤ s.length := fun p h => parts_le h
  have hcnt : (partsF s).length ≤ s.length + 1 := pts_count s []
  have HD : Hid (hasF s t = (partsF s).any fun p => alikeF p t) := Lib.hid rfl
  generalize partsF s = ps at *
  go_enter Tryd.func20, Tryd.ntmps20
  go_wp2_with fail
  refine HP.out.mono ?_
  rintro e W1 ⟨v, rfl, ho, hB⟩
  have hlen := own_len ho 34 9 3 Tryd.underlying34
  rw [List.length_map] at hlen
  obtain ⟨ad, hidx, hcell⟩ := own_cells ho Tryd.underlying34 (fun w => Tryd.sizeOf9 w)
  rw [List.length_map] at hidx hcell
  have HO := Lib.hid (And.intro ho (And.intro hB (And.intro hcell hpl)))
  have HI := Lib.hid hidx
  clear ho hB hidx hcell hpl
  obtain ⟨N, hN⟩ : ∃ N, N = ps.length := ⟨_, rfl⟩
  rw [← hN] at hlen hcnt
  have HN := Lib.hid hN
  clear hN
  go_wp2
  go_loopw [6] (fun iv wr => ∃ i : Nat, i ≤ N ∧ iv = .int .i64 (i : Int) ∧ Drawn W1 wr ∧ (ps.take i).any (fun p => alikeF p t) = false) (fun iv _ => N - (intOf iv).toNat)
  case atStart => exact ⟨0, Nat.zero_le _, rfl, Drawn.refl _, rfl⟩
  case round =>
    obtain ⟨i, hi, rfl, hD, hn⟩ := hrel
    by_cases hlt : i < N
    · have hNo := HN.out
      obtain ⟨p, hp⟩ : ∃ p, ps[i]? = some p := ⟨ps[i]'(by omega), List.getElem?_eq_getElem _⟩
      have hix := HI.out i (by omega)
      have hc : wr.cell? (ad i) = some (S p) := by
        rw [hD.cell, (HO.out.2.2.1 i (by omega)).2.2.1, List.getElem?_map, hp]; rfl
      have hnx := any_take_next hp hn
      have hmem : p ∈ ps := List.mem_of_getElem? hp
      have HA := Lib.hid (alike_any p t (by have := HO.out.2.2.2 p hmem; omega) ht wr)
      clear hn hp
      cases hb : alikeF p t with
      | true =>
        rw [hb] at hnx HA
        have HF : Hid (hasF s t = true) := Lib.hid (by rw [HD.out, ← List.take_append_drop (i + 1) ps, List.any_append, hnx, Bool.true_or])
        have HDD := Lib.hid hD
        clear hnx hD hb hmem hNo
        go_wp2_with fail
        refine HA.out.mono ?_
        rintro e W2 ⟨rfl, hD2⟩
        go_wp2
        go_ret
        exact ⟨by rw [HF.out]; rfl, HO.out.2.1.trans (((HDD.out.trans hD2).below).mono HO.out.2.1.size)⟩
      | false =>
        rw [hb] at hnx HA
        have HF := Lib.hid hnx
        have HDD := Lib.hid hD
        clear hnx hD hb hmem hNo
        go_wp2_with fail
        refine HA.out.mono ?_
        rintro e W2 ⟨rfl, hD2⟩
        go_wp2
        exact ⟨⟨i + 1, by omega, by go_num, HDD.out.trans hD2, HF.out⟩, by simp [intOf]; omega⟩
    · obtain rfl : i = N := by omega
      have HF : Hid (hasF s t = false ∧ Drawn W1 wr) := Lib.hid ⟨by rw [HD.out, ← hn, List.take_of_length_le (by have := HN.out; omega)], hD⟩
      clear hn hD
      go_wp2
      go_ret
      exact ⟨by rw [HF.out.1]; rfl, HO.out.2.1.trans (HF.out.2.below.mono HO.out.2.1.size)⟩

/-- Of the last k of n fields: the first one's value whose name is alike, and how many there are. -/
def getR (nm vl : Nat → List UInt8) (t : List UInt8) (n : Nat) : Nat → List UInt8 × Nat
  | 0 => ([], 0)
  | k + 1 => if alikeF (nm (n - 1 - k)) t = true then (vl (n - 1 - k), (getR nm vl t n k).2 + 1) else getR nm vl t n k
/-- Fields that came in: names and values. -/
structure Flds (w : World) (V : Value) (n b o : Nat) (nm vl : Nat → List UInt8) : Prop where
  came : ∃ v, CameS Tryd.prog w 36 V n b o 2 v ∧ ∀ i, i < n → v i 0 = S (nm i) ∧ v i 1 = S (vl i)
  few : n ≤ 100000
  long : ∀ i, i < n → (nm i).length ≤ 100000
theorem getR_le (nm vl : Nat → List UInt8) (t : List UInt8) (n : Nat) : ∀ k, (getR nm vl t n k).2 ≤ k
  | 0 => Nat.le_refl _
  | k + 1 => by
    have := getR_le nm vl t n k
    rw [getR]; split
    · show (getR nm vl t n k).2 + 1 ≤ k + 1; omega
    · omega
set_option maxRecDepth 100000 in
set_option maxHeartbeats 1000000 in
theorem get_any (V : Value) (n b o : Nat) (nm vl : Nat → List UInt8) (t : List UInt8) (ht : t.length ≤ 100000) (w : World) (hV : Flds w V n b o nm vl) :
    Calls Tryd.prog 22 #[V, S t] w fun e w' => e = .returned (.tuple #[S (getR nm vl t n n).1, .int .i64 ((getR nm vl t n n).2 : Int)]) ∧ Drawn w w' := by
  obtain ⟨⟨v, hcm, hvv⟩, hfew, hlong⟩ := hV
  have hlen := hcm.len 3
  have HV := Lib.hid (And.intro hcm (And.intro hvv hlong))
  clear hcm hvv hlong
  have hw0 : IntKind.i64.wrap ((n : Int) - 1) = (n : Int) - 1 := by rw [IntKind.wrap_i64]; omega
  go_enter Tryd.func22, Tryd.ntmps22
  go_wp2
  go_loopw [6, 7, 8] (fun vv cv iv wr => ∃ k : Nat, k ≤ n ∧ vv = S (getR nm vl t n k).1 ∧ cv = .int .i64 ((getR nm vl t n k).2 : Int) ∧ iv = .int .i64 ((n : Int) - 1 - (k : Int)) ∧ Drawn w wr) (fun _ _ iv _ => (intOf iv + 1).toNat)
  case atStart => exact ⟨0, Nat.zero_le _, rfl, rfl, by simp, Drawn.refl _⟩
  case round =>
    obtain ⟨k, hk, rfl, rfl, rfl, hD⟩ := hrel
    by_cases hlt : k < n
    · obtain ⟨j, hj⟩ : ∃ j : Nat, j = n - 1 - k := ⟨_, rfl⟩
      have hji : (n : Int) - 1 - (k : Int) = (j : Int) := by omega
      have hjn : j < n := by omega
      have hgr : getR nm vl t n (k + 1) = if alikeF (nm j) t = true then (vl j, (getR nm vl t n k).2 + 1) else getR nm vl t n k := by rw [hj]; rfl
      have hgl := getR_le nm vl t n k
      have hix := HV.out.1.index j hjn
      have c0 : wr.cell? ⟨b, o + j * 2, none⟩ = some (S (nm j)) := by
        have := HV.out.1.cell j 0 hjn (by omega)
        rw [Nat.add_zero] at this
        rw [hD.cell, this, (HV.out.2.1 j hjn).1]
      have c1 : wr.cell? ⟨b, o + j * 2 + 1, none⟩ = some (S (vl j)) := by
        have := HV.out.1.cell j 1 hjn (by omega)
        rw [hD.cell, this, (HV.out.2.1 j hjn).2]
      have HA := Lib.hid (alike_any (nm j) t (HV.out.2.2 j hjn) ht wr)
      have hjk : (n : Int) - 1 - ((k + 1 : Nat) : Int) = (j : Int) - 1 := by omega
      have hw1 : IntKind.i64.wrap ((j : Int) - 1) = (j : Int) - 1 := by rw [IntKind.wrap_i64]; omega
      have hge : decide ((0 : Int) ≤ (j : Int)) = true := decide_eq_true (by omega)
      have HJ := Lib.hid (And.intro hgr (And.intro hjk hlt))
      have HDD := Lib.hid hD
      rw [hji]
      clear hgr hjk hji hj hlt hD
      generalize o + j * 2 = q at *
      cases hb : alikeF (nm j) t with
      | true =>
        rw [hb] at HA
        have hw2 : IntKind.i64.wrap (((getR nm vl t n k).2 : Int) + 1) = ((getR nm vl t n k).2 : Int) + 1 := by rw [IntKind.wrap_i64]; omega
        have HG : Hid (getR nm vl t n (k + 1) = (vl j, (getR nm vl t n k).2 + 1)) := Lib.hid (by rw [HJ.out.1, if_pos hb])
        generalize getR nm vl t n k = gk at *
        obtain ⟨g1, g2⟩ := gk
        clear hb
        go_wp2_with fail
        refine HA.out.mono ?_
        rintro e W2 ⟨rfl, hD2⟩
        have d1 : W2.cell? ⟨b, q + 1, none⟩ = some (S (vl j)) := by rw [hD2.cell]; exact c1
        clear c0 c1
        have HD2 := Lib.hid (HDD.out.trans hD2)
        clear hD2
        go_wp2
        exact ⟨⟨k + 1, by have := HJ.out.2.2; omega, by rw [HG.out], by rw [HG.out]; go_num, by rw [HJ.out.2.1], HD2.out⟩, by simp [intOf]⟩
      | false =>
        rw [hb] at HA
        have HG : Hid (getR nm vl t n (k + 1) = getR nm vl t n k) := Lib.hid (by rw [HJ.out.1, if_neg (by rw [hb]; exact Bool.false_ne_true)])
        clear hb
        go_wp2_with fail
        refine HA.out.mono ?_
        rintro e W2 ⟨rfl, hD2⟩
        have HD2 := Lib.hid (HDD.out.trans hD2)
        clear hD2 c0 c1
        go_wp2
        exact ⟨⟨k + 1, by have := HJ.out.2.2; omega, by rw [HG.out], by rw [HG.out], by rw [HJ.out.2.1], HD2.out⟩, by simp [intOf]⟩
    · obtain rfl : k = n := by omega
      have hge : decide ((0 : Int) ≤ (k : Int) - 1 - (k : Int)) = false := decide_eq_false (by omega)
      have HDD := Lib.hid hD
      clear hD
      go_wp2
      go_ret2
      exact ⟨rfl, HDD.out⟩
end Go.Proofs.YtccccpbaolegcaaDoor
