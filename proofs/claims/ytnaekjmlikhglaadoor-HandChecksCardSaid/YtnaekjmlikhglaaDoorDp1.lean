/- Texts of this proof, one behind the other. -/
import Derived.Test.YtnaekjmlikhglaaDoorRw3
import Derived.Test.YtnaekjmlikhglaaDoorDa
import Derived.Test.YtnaekjmlikhglaaDoorDm1
/- The landed field.Get walked, over rows of fields wherever they lie (out of XKp1, without the chain's values). -/
namespace Go.Proofs.YtnaekjmlikhglaaDoor
open Go.RowKit Go.Shelf
attribute [local go_sem] store_one S_match S_store eguard_BN nguard_BN

def cntD (t : List UInt8) : List (List UInt8 × List UInt8) → Nat
  | [] => 0
  | f :: fs => (alikeF f.1 t).toNat + cntD t fs
def valD (t : List UInt8) : List (List UInt8 × List UInt8) → List UInt8
  | [] => []
  | f :: fs => if alikeF f.1 t = true then f.2 else valD t fs
theorem cntD_cons (t : List UInt8) (f : List UInt8 × List UInt8) (fs : List (List UInt8 × List UInt8)) : cntD t (f :: fs) = (alikeF f.1 t).toNat + cntD t fs := rfl
theorem cntD_snoc (t : List UInt8) (f : List UInt8 × List UInt8) : ∀ l, cntD t (l ++ [f]) = cntD t l + (alikeF f.1 t).toNat
  | [] => by simp [cntD]
  | g :: l => by rw [List.cons_append, cntD_cons, cntD_cons, cntD_snoc t f l, Nat.add_assoc]
theorem valD_snoc (t : List UInt8) (f : List UInt8 × List UInt8) : ∀ l, valD t (l ++ [f]) = if alikeF f.1 t = true then (if cntD t l = 0 then f.2 else valD t l) else valD t l
  | [] => by simp [valD, cntD]
  | g :: l => by
    rw [List.cons_append, valD, valD, cntD_cons, valD_snoc t f l]
    cases hg : alikeF g.1 t
    · simp
    · simp
theorem cntD_le (t : List UInt8) : ∀ l, cntD t l ≤ l.length
  | [] => Nat.le_refl _
  | g :: l => by
    have := cntD_le t l
    have h2 : (alikeF g.1 t).toNat ≤ 1 := Bool.toNat_le _
    rw [cntD_cons, List.length_cons]; omega
set_option maxRecDepth 100000 in
set_option maxHeartbeats 1000000 in
theorem get13L_any (V : Value) (fs : List (List UInt8 × List UInt8)) (b o : Nat) (t : List UInt8) (ht : t.length ≤ 100000) (hfew : fs.length ≤ 1000000) (hlong : ∀ f ∈ fs, f.1.length ≤ 100000) (w : World) (hV : FA w V fs b o) :
    Calls Tryd.prog 35 #[V, S t] w fun e w' => e = .returned (.tuple #[S (valD t fs), .int .i64 (cntD t fs : Int)]) ∧ Below w.heap.size w w' := by
  have hlen := hV.len 3
  obtain ⟨n, hn⟩ : ∃ n, n = fs.length := ⟨_, rfl⟩
  rw [← hn] at hlen hfew
  have HV := Lib.hid (And.intro hV (And.intro ht (And.intro hlong hn)))
  clear hV ht hlong hn
  go_enter Tryd.func35, Tryd.ntmps35
  go_wp2
  go_loopw [4, 5, 10] (fun vv cv iv wr => ∃ k : Nat, k ≤ n ∧ vv = S (valD t (fs.take k)) ∧ cv = .int .i64 (cntD t (fs.take k) : Int) ∧ iv = .int .i64 (k : Int) ∧ Below w.heap.size w wr) (fun _ _ iv _ => n - (intOf iv).toNat)
  case atStart => exact ⟨0, Nat.zero_le _, rfl, rfl, rfl, Below.refl _ _⟩
  case round =>
    obtain ⟨k, hk, rfl, rfl, rfl, hB⟩ := hrel
    by_cases hlt : k < n
    · have hVr := HV.out.1.below hB
      have hkl : k < fs.length := by rw [← HV.out.2.2.2]; exact hlt
      obtain ⟨⟨nk, vk⟩, hf⟩ : ∃ f, fs[k]? = some f := ⟨fs[k], List.getElem?_eq_getElem hkl⟩
      have hix := hVr.index k hkl
      obtain ⟨c0, c1⟩ := hVr.cell k _ hf
      dsimp only at c0 c1
      have HA := Lib.hid fun W => alike16_any nk t (HV.out.2.2.1 _ (List.mem_of_getElem? hf)) HV.out.2.1 W
      have hfl := cntD_le t (fs.take k)
      rw [List.length_take] at hfl
      have HB := Lib.hid hB
      have HG : Hid (valD t (fs.take (k + 1)) = (if alikeF nk t = true then (if cntD t (fs.take k) = 0 then vk else valD t (fs.take k)) else valD t (fs.take k)) ∧ cntD t (fs.take (k + 1)) = cntD t (fs.take k) + (alikeF nk t).toNat) := Lib.hid (by
        rw [List.take_add_one, hf]
        exact ⟨valD_snoc t (nk, vk) _, cntD_snoc t (nk, vk) _⟩)
      clear hVr hB hf
      generalize o + k * 2 = q at *
      obtain ⟨W2, hW2⟩ : ∃ W2, W2 = wr.alloc (.cells #[S nk, S vk] 37) := ⟨_, rfl⟩
      obtain ⟨g, hg⟩ : ∃ g, g = wr.heap.size := ⟨_, rfl⟩
      have hr2 : Row W2 g #[S nk, S vk] 37 := by rw [hW2, hg]; exact row_new wr _ _
      have hB2 : Below w.heap.size w W2 := by rw [hW2]; exact HB.out.alloc HB.out.size _
      have H2 := Lib.hid (And.intro hr2 hB2)
      clear hr2 hB2
      obtain ⟨fv, hfv⟩ : ∃ fv, fv = valD t (fs.take k) := ⟨_, rfl⟩
      obtain ⟨fc, hfc⟩ : ∃ fc, fc = cntD t (fs.take k) := ⟨_, rfl⟩
      rw [← hfc] at hfl HG ⊢
      rw [← hfv] at HG ⊢
      clear hfv hfc
      have hw1 : IntKind.i64.wrap ((fc : Int) + 1) = (fc : Int) + 1 := by rw [IntKind.wrap_i64]; omega
      have hw2 : IntKind.i64.wrap ((k : Int) + 1) = (k : Int) + 1 := by rw [IntKind.wrap_i64]; omega
      clear hfl hkl
      go_wp2_with fail
      rw [← hg, ← hW2]
      clear hg hW2 c0 c1 hix
      refine (HA.out W2).mono ?_
      rintro e W3 ⟨rfl, hD⟩
      have hr3 := H2.out.1.below hD.below H2.out.1.lt
      have c3 := cell_of_row W3 _ 1 _ 37 (0, 0) hr3
      have H3 : Hid (Below w.heap.size w W3) := Lib.hid (H2.out.2.trans (hD.below.mono H2.out.2.size))
      clear hD hr3 H2
      cases hb : alikeF nk t with
      | true =>
        have HG2 : Hid (valD t (fs.take (k + 1)) = (if fc = 0 then vk else fv) ∧ cntD t (fs.take (k + 1)) = fc + 1) := Lib.hid (by have := HG.out; rw [hb, if_pos rfl] at this; exact this)
        clear hb
        by_cases h0 : fc = 0
        · have hz : ((fc : Int) == 0) = true := by rw [beq_iff_eq]; omega
          have hz' : (fc == 0) = true := by rw [beq_iff_eq]; exact h0
          have HG3 : Hid (valD t (fs.take (k + 1)) = vk ∧ cntD t (fs.take (k + 1)) = fc + 1) := Lib.hid (by have := HG2.out; rw [if_pos h0] at this; exact this)
          clear h0
          go_wp2
          exact ⟨⟨k + 1, by omega, by rw [HG3.out.1], by rw [HG3.out.2]; go_num, by go_num, H3.out⟩, by simp [intOf]; omega⟩
        · have hz : ((fc : Int) == 0) = false := by rw [beq_eq_false_iff_ne]; omega
          have hz' : (fc == 0) = false := by rw [beq_eq_false_iff_ne]; exact h0
          have hz2 : decide (fc = 0) = false := decide_eq_false h0
          have HG3 : Hid (valD t (fs.take (k + 1)) = fv ∧ cntD t (fs.take (k + 1)) = fc + 1) := Lib.hid (by have := HG2.out; rw [if_neg h0] at this; exact this)
          clear h0
          go_wp2
          exact ⟨⟨k + 1, by omega, by rw [HG3.out.1], by rw [HG3.out.2]; go_num, by go_num, H3.out⟩, by simp [intOf]; omega⟩
      | false =>
        have HG2 : Hid (valD t (fs.take (k + 1)) = fv ∧ cntD t (fs.take (k + 1)) = fc) := Lib.hid (by have := HG.out; rw [hb, if_neg Bool.false_ne_true] at this; exact this)
        clear hb
        go_wp2
        exact ⟨⟨k + 1, by omega, by rw [HG2.out.1], by rw [HG2.out.2], by go_num, H3.out⟩, by simp [intOf]; omega⟩
    · obtain rfl : k = n := by omega
      have HB : Hid (Below w.heap.size w wr ∧ fs.take k = fs) := Lib.hid ⟨hB, by rw [HV.out.2.2.2, List.take_length]⟩
      clear hB
      go_wp2
      go_ret2
      exact ⟨by rw [HB.out.2]; rfl, HB.out.1⟩
end Go.Proofs.YtnaekjmlikhglaaDoor
/- What the landed package of hands counts and asks, against the list functions. -/
namespace Go.Proofs.YtnaekjmlikhglaaDoor

theorem alike_to17 {a b : DTx} (h : a.map lowB = b.map lowB) (x : DTx) : alikeF x a = alikeF x b := by unfold alikeF; rw [h]
theorem many_to17 {a b : DTx} (h : a.map lowB = b.map lowB) (fs : DFds) : manyF fs a = manyF fs b := by
  unfold manyF; congr 2; funext f; exact alike_to17 h f.1
theorem has_to17 {a b : DTx} (h : a.map lowB = b.map lowB) (s : DTx) : hasF s a = hasF s b := by
  unfold hasF; congr 1; funext p; exact alike_to17 h p
theorem cntD_many (t : DTx) : ∀ fs : DFds, cntD t fs = (manyF fs t).length
  | [] => rfl
  | f :: fs => by rw [many_cons, cntD_cons, cntD_many t fs, List.length_append]; cases alikeF f.1 t <;> rfl
theorem valD_many (t : DTx) : ∀ fs : DFds, valD t fs = (manyF fs t).headD []
  | [] => rfl
  | f :: fs => by
    rw [many_cons, valD, valD_many t fs]
    cases alikeF f.1 t <;> rfl
/-- Does a field of the name have a part that is the word? -/
def partD (fs : DFds) (n w : DTx) : Bool := fs.any fun f => alikeF f.1 n && hasF f.2 w
theorem part_many (n w : DTx) : ∀ fs : DFds, partD fs n w = hasAny (manyF fs n) w
  | [] => rfl
  | f :: fs => by
    have ih := part_many n w fs
    unfold partD hasAny at ih ⊢
    rw [many_cons, List.any_cons, List.any_append, ← ih]
    cases alikeF f.1 n <;> simp
theorem part_snoc (n w : DTx) (l : DFds) (f : DTx × DTx) : partD (l ++ [f]) n w = (partD l n w || (alikeF f.1 n && hasF f.2 w)) := by
  unfold partD; rw [List.any_append]; simp
theorem part_of_take {fs : DFds} {k : Nat} {n w : DTx} (h : partD (fs.take k) n w = true) : partD fs n w = true := by
  unfold partD at *
  rw [List.any_eq_true] at *
  obtain ⟨f, hf, h2⟩ := h
  exact ⟨f, List.mem_of_mem_take hf, h2⟩
def hostT : DTx := [72, 111, 115, 116]
def upT : DTx := [85, 112, 103, 114, 97, 100, 101]
def conT : DTx := [67, 111, 110, 110, 101, 99, 116, 105, 111, 110]
def keyT : DTx := [83, 101, 99, 45, 87, 101, 98, 83, 111, 99, 107, 101, 116, 45, 75, 101, 121]
def verT : DTx := [83, 101, 99, 45, 87, 101, 98, 83, 111, 99, 107, 101, 116, 45, 86, 101, 114, 115, 105, 111, 110]
theorem many_host (fs : DFds) : manyF fs hostT = manyF fs hostD := many_to17 (by decide) fs
theorem many_key (fs : DFds) : manyF fs keyT = manyF fs keyD := many_to17 (by decide) fs
theorem many_ver (fs : DFds) : manyF fs verT = manyF fs verD := many_to17 (by decide) fs
theorem part_up (fs : DFds) : partD fs upT wsD = hasAny (manyF fs upD) wsD := by
  rw [part_many, many_to17 (a := upT) (b := upD) (by decide)]
theorem part_con (fs : DFds) : partD fs conT upT = hasAny (manyF fs conD) upD := by
  rw [part_many, many_to17 (a := conT) (b := conD) (by decide)]
  have e : (fun v : DTx => hasF v upT) = fun v => hasF v upD := funext fun v => has_to17 (by decide) v
  unfold hasAny; rw [e]
end Go.Proofs.YtnaekjmlikhglaaDoor
