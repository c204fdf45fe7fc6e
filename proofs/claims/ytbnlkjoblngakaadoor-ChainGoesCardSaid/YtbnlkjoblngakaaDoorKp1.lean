/- The landed field.Get walked, over rows of fields wherever they lie. (mkkp1.py writes it, out of XPx5.) -/
import Derived.Test.YtbnlkjoblngakaaDoorRw3
import Derived.Test.YtbnlkjoblngakaaDoorKa
namespace Go.Proofs.YtbnlkjoblngakaaDoor
open Go.RowKit Go.Shelf
attribute [local go_sem] store_one S_match S_store eguard_BN nguard_BN

def cntF (t : List UInt8) : List (List UInt8 × List UInt8) → Nat
  | [] => 0
  | f :: fs => (alikeF f.1 t).toNat + cntF t fs
def valF (t : List UInt8) : List (List UInt8 × List UInt8) → List UInt8
  | [] => []
  | f :: fs => if alikeF f.1 t = true then f.2 else valF t fs
theorem cntL_cons (t : List UInt8) (f : List UInt8 × List UInt8) (fs : List (List UInt8 × List UInt8)) : cntF t (f :: fs) = (alikeF f.1 t).toNat + cntF t fs := rfl
theorem cntL_snoc (t : List UInt8) (f : List UInt8 × List UInt8) : ∀ l, cntF t (l ++ [f]) = cntF t l + (alikeF f.1 t).toNat
  | [] => by simp [cntF]
  | g :: l => by rw [List.cons_append, cntL_cons, cntL_cons, cntL_snoc t f l, Nat.add_assoc]
theorem val_snoc (t : List UInt8) (f : List UInt8 × List UInt8) : ∀ l, valF t (l ++ [f]) = if alikeF f.1 t = true then (if cntF t l = 0 then f.2 else valF t l) else valF t l
  | [] => by simp [valF, cntF]
  | g :: l => by
    rw [List.cons_append, valF, valF, cntL_cons, val_snoc t f l]
    cases hg : alikeF g.1 t
    · simp
    · simp
theorem cntL_le (t : List UInt8) : ∀ l, cntF t l ≤ l.length
  | [] => Nat.le_refl _
  | g :: l => by
    have := cntL_le t l
    have h2 : (alikeF g.1 t).toNat ≤ 1 := Bool.toNat_le _
    rw [cntL_cons, List.length_cons]; omega
set_option maxRecDepth 100000 in
set_option maxHeartbeats 1000000 in
theorem get13L_any (V : Value) (fs : List (List UInt8 × List UInt8)) (b o : Nat) (t : List UInt8) (ht : t.length ≤ 100000) (hfew : fs.length ≤ 1000000) (hlong : ∀ f ∈ fs, f.1.length ≤ 100000) (w : World) (hV : FA w V fs b o) :
    Calls Tryd.prog 60 #[V, S t] w fun e w' => e = .returned (.tuple #[S (valF t fs), .int .i64 (cntF t fs : Int)]) ∧ Below w.heap.size w w' := by
  have hlen := hV.len 3
  obtain ⟨n, hn⟩ : ∃ n, n = fs.length := ⟨_, rfl⟩
  rw [← hn] at hlen hfew
  have HV := Lib.hid (And.intro hV (And.intro ht (And.intro hlong hn)))
  clear hV ht hlong hn
  go_enter Tryd.func60, Tryd.ntmps60
  go_wp2
  go_loopw [4, 5, 10] (fun vv cv iv wr => ∃ k : Nat, k ≤ n ∧ vv = S (valF t (fs.take k)) ∧ cv = .int .i64 (cntF t (fs.take k) : Int) ∧ iv = .int .i64 (k : Int) ∧ Below w.heap.size w wr) (fun _ _ iv _ => n - (intOf iv).toNat)
  case atStart => exact ⟨0, Nat.zero_le _, rfl, rfl, rfl, Below.refl _ _⟩
  case round =>
    obtain ⟨k, hk, rfl, rfl, rfl, hB⟩ := hrel
    by_cases hlt : k < n
    · have hVr := HV.out.1.below hB
      have hkl : k < fs.length := by rw [← HV.out.2.2.2]; exact hlt
      obtain ⟨⟨nk, vk⟩, hf⟩ : ∃ f, fs[k]? = some f := ⟨fs[k], List.getElem?_eq_getElem hkl⟩
      have hix := hVr.index k hkl
      obtain ⟨c0, c1⟩ := hVr.cell k _ hf
      dsimp only at c0 c1
      have HA := Lib.hid fun W => alike16_any nk t (HV.out.2.2.1 _ (List.mem_of_getElem? hf)) HV.out.2.1 W
      have hfl := cntL_le t (fs.take k)
      rw [List.length_take] at hfl
      have HB := Lib.hid hB
      have HG : Hid (valF t (fs.take (k + 1)) = (if alikeF nk t = true then (if cntF t (fs.take k) = 0 then vk else valF t (fs.take k)) else valF t (fs.take k)) ∧ cntF t (fs.take (k + 1)) = cntF t (fs.take k) + (alikeF nk t).toNat) := Lib.hid (by
        rw [List.take_add_one, hf]
        exact ⟨val_snoc t (nk, vk) _, cntL_snoc t (nk, vk) _⟩)
      clear hVr hB hf
      generalize o + k * 2 = q at *
      obtain ⟨W2, hW2⟩ : ∃ W2, W2 = wr.alloc (.cells #[S nk, S vk] 53) := ⟨_, rfl⟩
      obtain ⟨g, hg⟩ : ∃ g, g = wr.heap.size := ⟨_, rfl⟩
      have hr2 : Row W2 g #[S nk, S vk] 53 := by rw [hW2, hg]; exact row_new wr _ _
      have hB2 : Below w.heap.size w W2 := by rw [hW2]; exact HB.out.alloc HB.out.size _
      have H2 := Lib.hid (And.intro hr2 hB2)
      clear hr2 hB2
      obtain ⟨fv, hfv⟩ : ∃ fv, fv = valF t (fs.take k) := ⟨_, rfl⟩
      obtain ⟨fc, hfc⟩ : ∃ fc, fc = cntF t (fs.take k) := ⟨_, rfl⟩
      rw [← hfc] at hfl HG ⊢
      rw [← hfv] at HG ⊢
      clear hfv hfc
      have hw1 : IntKind.i64.wrap ((fc : Int) + 1) = (fc : Int) + 1 := by rw [IntKind.wrap_i64]; omega
      have hw2 : IntKind.i64.wrap ((k : Int) + 1) = (k : Int) + 1 := by rw [IntKind.wrap_i64]; omega
      clear hfl hkl
      go_wp2_with fail
      rw [← hg, ← hW2]
      clear hg hW2 c0 c1 hix
      refine (HA.out W2).mono ?_
      rintro e W3 ⟨rfl, hD⟩
      have hr3 := H2.out.1.below hD.below H2.out.1.lt
      have c3 := cell_of_row W3 _ 1 _ 53 (0, 0) hr3
      have H3 : Hid (Below w.heap.size w W3) := Lib.hid (H2.out.2.trans (hD.below.mono H2.out.2.size))
      clear hD hr3 H2
      cases hb : alikeF nk t with
      | true =>
        have HG2 : Hid (valF t (fs.take (k + 1)) = (if fc = 0 then vk else fv) ∧ cntF t (fs.take (k + 1)) = fc + 1) := Lib.hid (by have := HG.out; rw [hb, if_pos rfl] at this; exact this)
        clear hb
        by_cases h0 : fc = 0
        · have hz : ((fc : Int) == 0) = true := by rw [beq_iff_eq]; omega
          have hz' : (fc == 0) = true := by rw [beq_iff_eq]; exact h0
          have HG3 : Hid (valF t (fs.take (k + 1)) = vk ∧ cntF t (fs.take (k + 1)) = fc + 1) := Lib.hid (by have := HG2.out; rw [if_pos h0] at this; exact this)
          clear h0
          go_wp2
          exact ⟨⟨k + 1, by omega, by rw [HG3.out.1], by rw [HG3.out.2]; go_num, by go_num, H3.out⟩, by simp [intOf]; omega⟩
        · have hz : ((fc : Int) == 0) = false := by rw [beq_eq_false_iff_ne]; omega
          have hz' : (fc == 0) = false := by rw [beq_eq_false_iff_ne]; exact h0
          have hz2 : decide (fc = 0) = false := decide_eq_false h0
          have HG3 : Hid (valF t (fs.take (k + 1)) = fv ∧ cntF t (fs.take (k + 1)) = fc + 1) := Lib.hid (by have := HG2.out; rw [if_neg h0] at this; exact this)
          clear h0
          go_wp2
          exact ⟨⟨k + 1, by omega, by rw [HG3.out.1], by rw [HG3.out.2]; go_num, by go_num, H3.out⟩, by simp [intOf]; omega⟩
      | false =>
        have HG2 : Hid (valF t (fs.take (k + 1)) = fv ∧ cntF t (fs.take (k + 1)) = fc) := Lib.hid (by have := HG.out; rw [hb, if_neg Bool.false_ne_true] at this; exact this)
        clear hb
        go_wp2
        exact ⟨⟨k + 1, by omega, by rw [HG2.out.1], by rw [HG2.out.2], by go_num, H3.out⟩, by simp [intOf]; omega⟩
    · obtain rfl : k = n := by omega
      have HB : Hid (Below w.heap.size w wr ∧ fs.take k = fs) := Lib.hid ⟨hB, by rw [HV.out.2.2.2, List.take_length]⟩
      clear hB
      go_wp2
      go_ret2
      exact ⟨by rw [HB.out.2]; rfl, HB.out.1⟩
theorem cntL_first (t : List UInt8) : ∀ l : Fds, (firstF l t = none → cntF t l = 0 ∧ valF t l = []) ∧ ∀ v, firstF l t = some v → 0 < cntF t l ∧ valF t l = v
  | [] => ⟨fun _ => ⟨rfl, rfl⟩, fun v h => by cases h⟩
  | f :: l => by
    have ih := cntL_first t l
    have e : firstF (f :: l) t = if alikeF f.1 t = true then some f.2 else firstF l t := by
      unfold firstF; rw [List.find?_cons]; cases h : alikeF f.1 t <;> simp
    rw [e, cntL_cons, valF]
    cases h : alikeF f.1 t with
    | true => exact ⟨fun h1 => by simp at h1, fun v h1 => by simp at h1; exact ⟨by simp only [Bool.toNat_true]; omega, by simp [h1]⟩⟩
    | false =>
      simp only [Bool.false_eq_true, if_false, Bool.toNat_false, Nat.zero_add]
      exact ih
end Go.Proofs.YtbnlkjoblngakaaDoor
