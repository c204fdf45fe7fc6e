/- The landed package of chains: which steps are right. The landed package of chains: Right. (mkkp7.py writes it.) -/
import Derived.Test.YtbnlkjoblngakaaDoorKp5
import Derived.Test.YtbnlkjoblngakaaDoorTr
import Derived.Test.YtbnlkjoblngakaaDoorQp
namespace Go.Proofs.YtbnlkjoblngakaaDoor
open Go.RowKit Go.Shelf
attribute [local go_sem] store_one S_match S_store

theorem any_take_next {p : Tx → Bool} {l : List Tx} {i : Nat} {c : Tx} (hc : l[i]? = some c) (h : (l.take i).any p = false) : (l.take (i + 1)).any p = p c := by
  rw [List.take_add_one, hc, Option.toList_some, List.any_append, h]; simp
theorem any_of_takeT {p : Tx → Bool} {l : List Tx} {i : Nat} (h : (l.take i).any p = true) : l.any p = true := by
  obtain ⟨x, hx, hp⟩ := List.any_eq_true.1 h
  exact List.any_eq_true.2 ⟨x, List.mem_of_mem_take hx, hp⟩
set_option maxRecDepth 100000 in
set_option maxHeartbeats 1000000 in
theorem idxf_any {g : Nat} {lb : Array Value} {p : Tx → Bool} {w0 : World} {L : List Tx} (hen : Entering g)
    (hf : ∀ t ∈ L, ∀ w, Below w0.heap.size w0 w → Calls Tryd.prog g (#[S t] ++ lb) w fun e w' => e = .returned (.bool (p t)) ∧ Below w.heap.size w w') (V : Value) (b o : Nat) (w : World) (hw : Below w0.heap.size w0 w) (hL : TA w V L b o) (hlen : L.length ≤ 1000) :
    Calls Tryd.prog 54 #[V, .func (.func g) #[] lb] w fun e w' => ∃ k : Int, e = .returned (.int .i64 k) ∧ decide (0 ≤ k) = L.any p ∧ Below w.heap.size w w' := by
  have hlT := hL.len 3
  have HF := Lib.hid hf
  have HL := Lib.hid (And.intro hL hw)
  obtain ⟨N, hN⟩ : ∃ N, N = L.length := ⟨_, rfl⟩
  rw [← hN] at hlT hlen
  have HN := Lib.hid hN
  have hen' : ∀ args w, (callFunc g args).run Tryd.prog w = .ok (.enter g args) w := hen
  clear hf hL hw hN hen
  go_enter Tryd.func54, Tryd.ntmps54
  go_wp2
  go_loopw [8] (fun iv wr => ∃ i : Nat, i ≤ N ∧ iv = .int .i64 (i : Int) ∧ Hid (Below w.heap.size w wr ∧ (L.take i).any p = false)) (fun iv _ => N - (intOf iv).toNat)
  case atStart => exact ⟨0, by omega, rfl, Lib.hid ⟨Below.refl _ _, rfl⟩⟩
  case round =>
    obtain ⟨i, hi, rfl, HI⟩ := hrel
    by_cases hlt : i < N
    · obtain ⟨c, hc⟩ : ∃ c, L[i]? = some c := ⟨L[i]'(by have := HN.out; omega), List.getElem?_eq_getElem _⟩
      have hT := HL.out.1.below HI.out.1
      have hix := hT.index i (by have := HN.out; omega)
      have hcl := hT.cell i c hc
      have hnx := any_take_next hc HI.out.2
      have HF2 := Lib.hid (HF.out c (List.mem_of_getElem? hc) wr (HL.out.2.trans (HI.out.1.mono HL.out.2.size)))
      obtain ⟨oi, hoi⟩ : ∃ x, x = o + i := ⟨_, rfl⟩
      rw [← hoi] at hix hcl
      have hw1 : IntKind.i64.wrap ((i : Int) + 1) = (i : Int) + 1 := by rw [IntKind.wrap_i64]; omega
      clear hT hc hoi
      go_wp2_with fail
      refine HF2.out.mono ?_
      rintro e w1 ⟨rfl, hB⟩
      clear HF2 hix hcl
      cases hp : p c with
      | true =>
        have HE : Hid (L.any p = true ∧ Below w.heap.size w w1) := Lib.hid ⟨any_of_takeT (hnx.trans hp), HI.out.1.trans (hB.mono HI.out.1.size)⟩
        clear hnx hp HI hB
        go_wp2
        go_ret
        exact ⟨_, rfl, by rw [HE.out.1]; exact decide_eq_true (by omega), HE.out.2⟩
      | false =>
        have HE : Hid (Below w.heap.size w w1 ∧ (L.take (i + 1)).any p = false) := Lib.hid ⟨HI.out.1.trans (hB.mono HI.out.1.size), hnx.trans hp⟩
        clear hnx hp HI hB
        go_wp2
        exact ⟨⟨i + 1, by omega, by go_num, HE⟩, by simp [intOf]; omega⟩
    · obtain rfl : i = N := by omega
      have HE : Hid (Below w.heap.size w wr ∧ L.any p = false) := Lib.hid ⟨HI.out.1, by have := HI.out.2; rwa [HN.out, List.take_length] at this⟩
      clear HI
      go_wp2
      go_ret
      exact ⟨_, rfl, by rw [HE.out.2]; rfl, HE.out.1⟩
set_option maxRecDepth 100000 in
set_option maxHeartbeats 1000000 in
theorem containsf_any {g : Nat} {lb : Array Value} {p : Tx → Bool} {w0 : World} {L : List Tx} (hen : Entering g)
    (hf : ∀ t ∈ L, ∀ w, Below w0.heap.size w0 w → Calls Tryd.prog g (#[S t] ++ lb) w fun e w' => e = .returned (.bool (p t)) ∧ Below w.heap.size w w') (V : Value) (b o : Nat) (w : World) (hw : Below w0.heap.size w0 w) (hL : TA w V L b o) (hlen : L.length ≤ 1000) :
    Calls Tryd.prog 35 #[V, .func (.func g) #[] lb] w fun e w' => e = .returned (.bool (L.any p)) ∧ Below w.heap.size w w' := by
  have hc := idxf_any hen hf V b o w hw hL hlen
  obtain ⟨R, hR⟩ : ∃ R, R = L.any p := ⟨_, rfl⟩
  rw [← hR] at hc ⊢
  have HC := Lib.hid hc
  clear hf hL hw hlen hen hR hc
  go_enter Tryd.func35, Tryd.ntmps35
  go_wp2_with fail
  refine HC.out.mono ?_
  rintro e w1 ⟨k, rfl, hk, hB⟩
  have HB := Lib.hid hB
  clear hB HC
  go_wp2
  go_ret
  exact ⟨rfl, HB.out⟩
def ownT : List Tx := [[65, 108, 108, 111, 119], [67, 111, 110, 110, 101, 99, 116, 105, 111, 110], [67, 111, 110, 116, 101, 110, 116, 45, 76, 101, 110, 103, 116, 104], [83, 101, 99, 45, 87, 101, 98, 83, 111, 99, 107, 101, 116, 45, 65, 99, 99, 101, 112, 116], [83, 101, 99, 45, 87, 101, 98, 83, 111, 99, 107, 101, 116, 45, 86, 101, 114, 115, 105, 111, 110], [84, 114, 97, 110, 115, 102, 101, 114, 45, 69, 110, 99, 111, 100, 105, 110, 103], [85, 112, 103, 114, 97, 100, 101]]
theorem own_any (s : Tx) : ownT.any (fun o => alikeF s o) = ownN s := by
  have h : ownNames = ownT.map (fun o => o.map lowB) := by decide
  unfold ownN
  rw [h, List.contains_eq_any_beq, List.any_map]
  rfl
set_option maxRecDepth 100000 in
set_option maxHeartbeats 1000000 in
theorem isown_one (s t : Tx) (hs : s.length ≤ 100) (ht : t.length ≤ 100) (bx : Nat) (w : World) (hr : Row w bx #[S s] 9) :
    Calls Tryd.prog 36 (#[S t] ++ #[.pointer (some ⟨bx, 0, none⟩)]) w fun e w' => e = .returned (.bool (alikeF s t)) ∧ Below w.heap.size w w' := by
  have c0 : w.cell? ⟨bx, 0, none⟩ = some (S s) := cell_of_row w bx 0 _ _ (0, 0) hr
  have HC := Lib.hid (alike16_any s t (by omega) (by omega) w)
  clear hr
  go_enter Tryd.func36, Tryd.ntmps36
  go_wp2_with fail
  refine HC.out.mono ?_
  rintro e w1 ⟨rfl, hD⟩
  have HB := Lib.hid hD.below
  clear hD HC c0
  go_wp2
  go_ret
  exact ⟨rfl, HB.out⟩
set_option maxRecDepth 100000 in
set_option maxHeartbeats 1000000 in
theorem isown_any (s : Tx) (hs : s.length ≤ 100) (w : World) : Calls Tryd.prog 24 #[S s] w fun e w' => e = .returned (.bool (ownN s)) ∧ Below w.heap.size w w' := by
  obtain ⟨W1, hW1⟩ : ∃ W, W = w.alloc (.cells #[S s] 9) := ⟨_, rfl⟩
  obtain ⟨W2, hW2⟩ : ∃ W, W = W1.alloc (.cells (ownT.map S).toArray 9) := ⟨_, rfl⟩
  have hs1 : W1.heap.size = w.heap.size + 1 := by rw [hW1, alloc_size]
  have hr1 : Row W2 w.heap.size #[S s] 9 := by rw [hW2, hW1]; exact (row_new w _ _).alloc _
  have hr2 : Row W2 (w.heap.size + 1) (ownT.map S).toArray 9 := by rw [hW2, ← hs1]; exact row_new W1 _ _
  have hB : Below w.heap.size w W2 := by rw [hW2]; exact (by rw [hW1]; exact (Below.refl _ _).alloc (Nat.le_refl _) _ : Below w.heap.size w W1).alloc (by omega) _
  have HC := Lib.hid (containsf_any (g := 36) (lb := #[.pointer (some ⟨w.heap.size, 0, none⟩)]) (p := fun t => alikeF s t) (w0 := W2) (L := ownT) (enters_of Tryd.func36 (by kernel_rfl) rfl)
    (fun t ht w' hb => isown_one s t hs (by revert t; decide) w.heap.size w' (hr1.below hb hr1.lt)) (.slice (some ⟨w.heap.size + 1, 0, none⟩) 7 7) (w.heap.size + 1) 0 W2 (Below.refl _ _) (ta_row hr2 rfl) (by decide))
  rw [own_any] at HC
  have HB := Lib.hid hB
  have hW : W2 = (w.alloc (.cells #[S s] 9)).alloc (.cells #[.string ⟨#[65, 108, 108, 111, 119]⟩, .string ⟨#[67, 111, 110, 110, 101, 99, 116, 105, 111, 110]⟩, .string ⟨#[67, 111, 110, 116, 101, 110, 116, 45, 76, 101, 110, 103, 116, 104]⟩, .string ⟨#[83, 101, 99, 45, 87, 101, 98, 83, 111, 99, 107, 101, 116, 45, 65, 99, 99, 101, 112, 116]⟩, .string ⟨#[83, 101, 99, 45, 87, 101, 98, 83, 111, 99, 107, 101, 116, 45, 86, 101, 114, 115, 105, 111, 110]⟩, .string ⟨#[84, 114, 97, 110, 115, 102, 101, 114, 45, 69, 110, 99, 111, 100, 105, 110, 103]⟩, .string ⟨#[85, 112, 103, 114, 97, 100, 101]⟩] 9) := by rw [hW2, hW1]; rfl
  rw [hW] at HC HB
  clear hB hr1 hr2 hs1 hW1 hW2 hW
  go_enter Tryd.func24, Tryd.ntmps24
  go_wp2_with fail
  refine HC.out.mono ?_
  rintro e w1 ⟨rfl, hB⟩
  have HE := Lib.hid (HB.out.trans (hB.mono HB.out.size))
  clear hB HC HB
  go_wp2
  go_ret
  exact ⟨rfl, HE.out⟩
theorem isfield_eq (n v : Tx) : ((parseF (n ++ 58 :: v)).2.2 && ((parseF (n ++ 58 :: v)).1 == n && (parseF (n ++ 58 :: v)).2.1 == v)) = (tokF n && plainV v) := by
  cases ht : tokF n with
  | false =>
    rw [Bool.false_and]
    cases hp : (parseF (n ++ 58 :: v)).2.2 with
    | false => rfl
    | true =>
      obtain ⟨h1, -⟩ := parse_true (s := n ++ 58 :: v) (n := (parseF (n ++ 58 :: v)).1) (v := (parseF (n ++ 58 :: v)).2.1) (by rw [← hp])
      rw [Bool.true_and, Bool.and_eq_false_iff]
      left
      rw [beq_eq_false_iff_ne]
      intro e
      rw [e, ht] at h1
      cases h1
  | true =>
    have hn : 58 ∉ n := fun hm => by
      have h := ht
      unfold tokF at h
      rw [Bool.and_eq_true] at h
      have := List.all_eq_true.1 h.1 _ hm
      rw [colon_tok] at this
      cases this
    have hpv : plainV v = (v.all valB && (v == bareF v)) := rfl
    rw [parse_cut n v hn, ht, hpv, Bool.true_and, Bool.true_and]
    cases v.all valB with
    | true =>
      simp only [if_true, beq_self_eq_true, Bool.true_and]
      rw [Bool.eq_iff_iff, beq_iff_eq, beq_iff_eq]
      exact eq_comm
    | false => simp
set_option maxRecDepth 100000 in
set_option maxHeartbeats 1000000 in
theorem isfield_any (n v : Tx) (hn : n.length ≤ 100) (hv : v.length ≤ 100) (w : World) : Calls Tryd.prog 23 #[S n, S v] w fun e w' => e = .returned (.bool (tokF n && plainV v)) ∧ Below w.heap.size w w' := by
  rw [← isfield_eq]
  have hc := parse10_any (n ++ 58 :: v) (by rw [List.length_append, List.length_cons]; omega) w
  obtain ⟨⟨q1, q2, q3⟩, hq⟩ : ∃ q, q = parseF (n ++ 58 :: v) := ⟨_, rfl⟩
  rw [← hq] at hc ⊢
  unfold parseV at hc
  dsimp only at hc ⊢
  have a1 : binOp .add 9 (S n) (.string ⟨#[58]⟩) = pure (S (n ++ [58])) := S_add 9 n [58] (by show _ + 1 ≤ _; omega)
  have a2 : binOp .add 9 (S (n ++ [58])) (S v) = pure (S (n ++ 58 :: v)) := by
    have := S_add 9 (n ++ [58]) v (by rw [List.length_append]; show _ + 1 + _ ≤ _; omega)
    rwa [List.append_assoc, List.singleton_append] at this
  have HC := Lib.hid hc
  have n1 : ∀ x y, eqGuard .eql 9 x y (S q1) (S n) = pure () := fun _ _ => rfl
  have n2 : ∀ x y, eqGuard .eql 9 x y (S q2) (S v) = pure () := fun _ _ => rfl
  have e1 := eql_S 9 q1 n
  have e2 := eql_S 9 q2 v
  generalize (q1 == n) = E1 at *
  generalize (q2 == v) = E2 at *
  clear hc hq
  cases q3 <;> cases E1 <;> cases E2 <;>
  · go_enter Tryd.func23, Tryd.ntmps23
    go_wp2_with fail
    refine HC.out.mono ?_
    rintro e w1 ⟨rfl, hB⟩
    have HE := Lib.hid (hB.alloc hB.size (.cells #[S q1, S q2] 53))
    clear hB HC
    go_wp2
    go_ret
    exact ⟨rfl, HE.out⟩
theorem pre47 (s : Tx) : Lib.hasPrefix s [47] = (s[0]? == some 47) := by
  cases s with
  | nil => rfl
  | cons c t =>
    show ((47 : UInt8) == c && true) = (some c == some 47)
    rw [Bool.and_true, Bool.eq_iff_iff, beq_iff_eq, beq_iff_eq]
    exact ⟨fun h => by rw [h], fun h => (Option.some.inj h).symm⟩
theorem suf47 (s : Tx) : Lib.hasSuffix s [47] = (s[s.length - 1]? == some 47) := by
  obtain ⟨r, rfl⟩ : ∃ r : Tx, s = r.reverse := ⟨s.reverse, by simp⟩
  unfold Lib.hasSuffix List.isSuffixOf
  rw [List.reverse_reverse]
  cases r with
  | nil => rfl
  | cons c t =>
    have h : ((c :: t).reverse)[(c :: t).reverse.length - 1]? = some c := by simp
    rw [h]
    show ((47 : UInt8) == c && true) = (some c == some 47)
    rw [Bool.and_true, Bool.eq_iff_iff, beq_iff_eq, beq_iff_eq]
    exact ⟨fun h => by rw [h], fun h => (Option.some.inj h).symm⟩
theorem prefix_eq (s : Tx) : (Lib.hasPrefix s [47] && !(Lib.hasSuffix s [47])) = (decide (2 ≤ s.length) && s[0]? == some 47 && s[s.length - 1]? != some 47) := by
  rw [pre47, suf47]
  rcases s with _ | ⟨a, _ | ⟨b, t⟩⟩
  · rfl
  · show (some a == some 47 && !(some a == some 47)) = (false && _ && _)
    rw [Bool.false_and, Bool.false_and]
    cases (some a == some (47 : UInt8)) <;> rfl
  · have h : decide (2 ≤ (a :: b :: t).length) = true := decide_eq_true (by simp)
    rw [h, Bool.true_and]; rfl
set_option maxRecDepth 100000 in
set_option maxHeartbeats 1000000 in
theorem isprefix_any (s : Tx) (hs : s.length ≤ 100) (w : World) : Calls Tryd.prog 26 #[S s] w fun e w' => e = .returned (.bool (decide (2 ≤ s.length) && s[0]? == some 47 && s[s.length - 1]? != some 47)) ∧ w' = w := by
  rw [← prefix_eq]
  have HP := Lib.hid (hasp_any s w)
  have HS : Hid (Calls Tryd.prog 41 #[S s, .string ⟨#[47]⟩] w fun e w' => e = .returned (.bool (Lib.hasSuffix s [47])) ∧ w' = w) := Lib.hid (Any.strings_HasSuffix Tryd.lays100 ⟨s.toArray⟩ ⟨#[47]⟩ w (by show s.length ≤ _; omega))
  generalize Lib.hasPrefix s [47] = P at *
  generalize Lib.hasSuffix s [47] = U at *
  cases P with
  | false =>
    go_enter Tryd.func26, Tryd.ntmps26
    go_wp2_with fail
    refine HP.out.mono ?_
    rintro e w1 ⟨rfl, hw⟩
    rw [hw]
    clear hw
    go_wp2
    go_ret
    exact ⟨rfl, rfl⟩
  | true =>
    cases U <;>
    · go_enter Tryd.func26, Tryd.ntmps26
      go_wp2_with fail
      refine HP.out.mono ?_
      rintro e w1 ⟨rfl, hw⟩
      rw [hw]
      clear hw
      go_wp2_with fail
      refine HS.out.mono ?_
      rintro e w2 ⟨rfl, hw⟩
      rw [hw]
      clear hw
      go_wp2
      go_ret
      exact ⟨rfl, rfl⟩

theorem right_k (kd sn : Int) (nm vl : Tx) : (kd = 1 → rightS ⟨kd, nm, vl, sn⟩ = (((sn == 0) && (tokF nm && plainV vl)) && !(ownN nm))) ∧ (kd = 2 → rightS ⟨kd, nm, vl, sn⟩ = ((sn == 0) && tokF nm)) ∧
    (kd = 3 → rightS ⟨kd, nm, vl, sn⟩ = ((decide (0 ≤ sn) && (nm == [])) && (vl == []))) ∧ (kd = 4 → rightS ⟨kd, nm, vl, sn⟩ = (((sn == 0) && (nm == [])) && (decide (2 ≤ vl.length) && vl[0]? == some 47 && vl[vl.length - 1]? != some 47))) ∧
    (kd = 5 → rightS ⟨kd, nm, vl, sn⟩ = ((((sn == 0) && tokF nm) && tokF vl) && !(ownN vl))) ∧ (kd ≠ 1 → kd ≠ 2 → kd ≠ 3 → kd ≠ 4 → kd ≠ 5 → rightS ⟨kd, nm, vl, sn⟩ = false) := by
  refine ⟨fun h => ?_, fun h => ?_, fun h => ?_, fun h => ?_, fun h => ?_, fun h1 h2 h3 h4 h5 => ?_⟩
  · subst h; show (tokF nm && plainV vl && !ownN nm && sn == 0) = _
    cases (sn == 0) <;> simp
  · subst h; show (tokF nm && sn == 0) = _
    cases (sn == 0) <;> simp
  · subst h; rfl
  · subst h; show (decide (2 ≤ vl.length) && vl[0]? == some 47 && vl[vl.length - 1]? != some 47 && nm == [] && sn == 0) = _
    cases (sn == 0) <;> cases (nm == []) <;> simp
  · subst h; show (tokF nm && tokF vl && !ownN vl && sn == 0) = _
    cases (sn == 0) <;> simp
  · unfold rightS; dsimp only; rw [if_neg h1, if_neg h2, if_neg h3, if_neg h4, if_neg h5]
set_option maxRecDepth 100000 in
set_option maxHeartbeats 2000000 in
theorem rightL_any (s : Stp) (w : World) (hln : s.name.length ≤ 100) (hlv : s.val.length ≤ 100) : Calls Tryd.prog 12 #[stV s] w fun e w' => e = .returned (.bool (rightS s)) ∧ Below w.heap.size w w' := by
  obtain ⟨kd, nm, vl, sn⟩ := s
  unfold stV stC
  dsimp only at hln hlv ⊢
  obtain ⟨r1, r2, r3, r4, r5, r6⟩ := right_k kd sn nm vl
  obtain ⟨R, hR⟩ : ∃ R, R = rightS ⟨kd, nm, vl, sn⟩ := ⟨_, rfl⟩
  rw [← hR] at r1 r2 r3 r4 r5 r6 ⊢
  obtain ⟨W1, hW1⟩ : ∃ W, W = w.alloc (.cells #[.int .i64 kd, S nm, S vl, .int .i64 sn] 35) := ⟨_, rfl⟩
  have H1 : Hid (Row W1 w.heap.size #[.int .i64 kd, S nm, S vl, .int .i64 sn] 35 ∧ Below w.heap.size w W1) := Lib.hid (by rw [hW1]; exact ⟨row_new w _ _, (Below.refl _ _).alloc (Nat.le_refl _) _⟩)
  have gnm : ∀ x y, eqGuard .eql 9 x y (S nm) (.string ⟨#[]⟩) = pure () := fun _ _ => rfl
  have gvl : ∀ x y, eqGuard .eql 9 x y (S vl) (.string ⟨#[]⟩) = pure () := fun _ _ => rfl
  have enm : binOp .eql 9 (S nm) (.string ⟨#[]⟩) = pure (.bool (nm == [])) := eql_S 9 nm []
  have evl : binOp .eql 9 (S vl) (.string ⟨#[]⟩) = pure (.bool (vl == [])) := eql_S 9 vl []
  clear hR
  by_cases k1 : kd = 1
  · have HR := Lib.hid (r1 k1)
    have g1 : (kd == 1) = true := by rw [beq_iff_eq]; omega
    clear r1 r2 r3 r4 r5 r6 k1
    rcases Bool.eq_false_or_eq_true ((sn == 0)) with hb | hb
    · have hb0 : (sn == 0) = true := hb
      rw [hb] at HR
      clear hb
      go_enter Tryd.func12, Tryd.ntmps12
      have HC := Lib.hid (isfield_any nm vl hln hlv W1)
      rw [hW1] at HC
      go_wp2_with fail
      refine HC.out.mono ?_
      rintro e V1 ⟨rfl, hB⟩
      rw [← hW1] at hB
      have hrow := H1.out.1.below hB H1.out.1.lt
      have x0 : V1.cell? ⟨w.heap.size, 0, none⟩ = some (.int .i64 kd) := cell_of_row V1 _ 0 _ _ (0, 0) hrow
      have x1 : V1.cell? ⟨w.heap.size, 1, none⟩ = some (S nm) := cell_of_row V1 _ 1 _ _ (0, 0) hrow
      have x2 : V1.cell? ⟨w.heap.size, 2, none⟩ = some (S vl) := cell_of_row V1 _ 2 _ _ (0, 0) hrow
      have x3 : V1.cell? ⟨w.heap.size, 3, none⟩ = some (.int .i64 sn) := cell_of_row V1 _ 3 _ _ (0, 0) hrow
      have HV1 := Lib.hid (And.intro hrow (H1.out.2.trans (hB.mono H1.out.2.size)))
      clear hB hrow HC
      rcases Bool.eq_false_or_eq_true ((tokF nm && plainV vl)) with hb | hb
      · rw [hb] at HR ⊢
        clear hb
        have HC := Lib.hid (isown_any nm hln V1)
        go_wp2_with fail
        refine HC.out.mono ?_
        rintro e V2 ⟨rfl, hB⟩
        have hrow := HV1.out.1.below hB HV1.out.1.lt
        have x0 : V2.cell? ⟨w.heap.size, 0, none⟩ = some (.int .i64 kd) := cell_of_row V2 _ 0 _ _ (0, 0) hrow
        have x1 : V2.cell? ⟨w.heap.size, 1, none⟩ = some (S nm) := cell_of_row V2 _ 1 _ _ (0, 0) hrow
        have x2 : V2.cell? ⟨w.heap.size, 2, none⟩ = some (S vl) := cell_of_row V2 _ 2 _ _ (0, 0) hrow
        have x3 : V2.cell? ⟨w.heap.size, 3, none⟩ = some (.int .i64 sn) := cell_of_row V2 _ 3 _ _ (0, 0) hrow
        have HV2 := Lib.hid (And.intro hrow (HV1.out.2.trans (hB.mono HV1.out.2.size)))
        clear hB hrow HC
        rcases Bool.eq_false_or_eq_true (ownN nm) with hb | hb
        · rw [hb] at HR ⊢
          clear hb
          have HR : Hid (R = false) := Lib.hid (by rw [HR.out]; simp)
          go_wp2
          go_ret
          exact ⟨by rw [HR.out]; rfl, HV2.out.2⟩
        · rw [hb] at HR ⊢
          clear hb
          have HR : Hid (R = true) := Lib.hid (by rw [HR.out]; simp)
          go_wp2
          go_ret
          exact ⟨by rw [HR.out]; rfl, HV2.out.2⟩
      · rw [hb] at HR ⊢
        clear hb
        have HR : Hid (R = false) := Lib.hid (by rw [HR.out]; simp)
        go_wp2
        go_ret
        exact ⟨by rw [HR.out]; rfl, HV1.out.2⟩
    · have hb0 : (sn == 0) = false := hb
      rw [hb] at HR
      clear hb
      have HR : Hid (R = false) := Lib.hid (by rw [HR.out]; simp)
      go_enter Tryd.func12, Tryd.ntmps12
      go_wp2
      go_ret
      exact ⟨by rw [HR.out]; rfl, by rw [← hW1]; exact H1.out.2⟩
  by_cases k2 : kd = 2
  · have HR := Lib.hid (r2 k2)
    have g1 : (kd == 1) = false := by rw [beq_eq_false_iff_ne]; omega
    have g2 : (kd == 2) = true := by rw [beq_iff_eq]; omega
    clear r1 r2 r3 r4 r5 r6 k1 k2
    rcases Bool.eq_false_or_eq_true ((sn == 0)) with hb | hb
    · have hb0 : (sn == 0) = true := hb
      rw [hb] at HR
      clear hb
      go_enter Tryd.func12, Tryd.ntmps12
      have HC := Lib.hid (token15_any nm (by omega) W1)
      rw [hW1] at HC
      go_wp2_with fail
      refine HC.out.mono ?_
      rintro e wz ⟨rfl, hw⟩
      rw [hw]
      clear hw wz HC
      rcases Bool.eq_false_or_eq_true (tokF nm) with hb | hb
      · rw [hb] at HR ⊢
        clear hb
        have HR : Hid (R = true) := Lib.hid (by rw [HR.out]; simp)
        go_wp2
        go_ret
        exact ⟨by rw [HR.out]; rfl, by rw [← hW1]; exact H1.out.2⟩
      · rw [hb] at HR ⊢
        clear hb
        have HR : Hid (R = false) := Lib.hid (by rw [HR.out]; simp)
        go_wp2
        go_ret
        exact ⟨by rw [HR.out]; rfl, by rw [← hW1]; exact H1.out.2⟩
    · have hb0 : (sn == 0) = false := hb
      rw [hb] at HR
      clear hb
      have HR : Hid (R = false) := Lib.hid (by rw [HR.out]; simp)
      go_enter Tryd.func12, Tryd.ntmps12
      go_wp2
      go_ret
      exact ⟨by rw [HR.out]; rfl, by rw [← hW1]; exact H1.out.2⟩
  by_cases k3 : kd = 3
  · have HR := Lib.hid (r3 k3)
    have g1 : (kd == 1) = false := by rw [beq_eq_false_iff_ne]; omega
    have g2 : (kd == 2) = false := by rw [beq_eq_false_iff_ne]; omega
    have g3 : (kd == 3) = true := by rw [beq_iff_eq]; omega
    clear r1 r2 r3 r4 r5 r6 k1 k2 k3
    rcases Bool.eq_false_or_eq_true (decide (0 ≤ sn)) with hb | hb
    · have hb0 : decide (0 ≤ sn) = true := hb
      rw [hb] at HR
      clear hb
      rcases Bool.eq_false_or_eq_true ((nm == [])) with hb | hb
      · rw [hb] at enm
        rw [hb] at HR
        clear hb
        rcases Bool.eq_false_or_eq_true ((vl == [])) with hb | hb
        · rw [hb] at evl
          rw [hb] at HR
          clear hb
          go_enter Tryd.func12, Tryd.ntmps12
          go_wp2
          go_ret
          exact ⟨by rw [HR.out]; rfl, by rw [← hW1]; exact H1.out.2⟩
        · rw [hb] at evl
          rw [hb] at HR
          clear hb
          have HR : Hid (R = false) := Lib.hid (by rw [HR.out]; simp)
          go_enter Tryd.func12, Tryd.ntmps12
          go_wp2
          go_ret
          exact ⟨by rw [HR.out]; rfl, by rw [← hW1]; exact H1.out.2⟩
      · rw [hb] at enm
        rw [hb] at HR
        clear hb
        have HR : Hid (R = false) := Lib.hid (by rw [HR.out]; simp)
        go_enter Tryd.func12, Tryd.ntmps12
        go_wp2
        go_ret
        exact ⟨by rw [HR.out]; rfl, by rw [← hW1]; exact H1.out.2⟩
    · have hb0 : decide (0 ≤ sn) = false := hb
      rw [hb] at HR
      clear hb
      have HR : Hid (R = false) := Lib.hid (by rw [HR.out]; simp)
      go_enter Tryd.func12, Tryd.ntmps12
      go_wp2
      go_ret
      exact ⟨by rw [HR.out]; rfl, by rw [← hW1]; exact H1.out.2⟩
  by_cases k4 : kd = 4
  · have HR := Lib.hid (r4 k4)
    have g1 : (kd == 1) = false := by rw [beq_eq_false_iff_ne]; omega
    have g2 : (kd == 2) = false := by rw [beq_eq_false_iff_ne]; omega
    have g3 : (kd == 3) = false := by rw [beq_eq_false_iff_ne]; omega
    have g4 : (kd == 4) = true := by rw [beq_iff_eq]; omega
    clear r1 r2 r3 r4 r5 r6 k1 k2 k3 k4
    rcases Bool.eq_false_or_eq_true ((sn == 0)) with hb | hb
    · have hb0 : (sn == 0) = true := hb
      rw [hb] at HR
      clear hb
      rcases Bool.eq_false_or_eq_true ((nm == [])) with hb | hb
      · rw [hb] at enm
        rw [hb] at HR
        clear hb
        go_enter Tryd.func12, Tryd.ntmps12
        have HC := Lib.hid (isprefix_any vl hlv W1)
        rw [hW1] at HC
        go_wp2_with fail
        refine HC.out.mono ?_
        rintro e wz ⟨rfl, hw⟩
        rw [hw]
        clear hw wz HC
        rcases Bool.eq_false_or_eq_true ((decide (2 ≤ vl.length) && vl[0]? == some 47 && vl[vl.length - 1]? != some 47)) with hb | hb
        · rw [hb] at HR ⊢
          clear hb
          have HR : Hid (R = true) := Lib.hid (by rw [HR.out]; simp)
          go_wp2
          go_ret
          exact ⟨by rw [HR.out]; rfl, by rw [← hW1]; exact H1.out.2⟩
        · rw [hb] at HR ⊢
          clear hb
          have HR : Hid (R = false) := Lib.hid (by rw [HR.out]; simp)
          go_wp2
          go_ret
          exact ⟨by rw [HR.out]; rfl, by rw [← hW1]; exact H1.out.2⟩
      · rw [hb] at enm
        rw [hb] at HR
        clear hb
        have HR : Hid (R = false) := Lib.hid (by rw [HR.out]; simp)
        go_enter Tryd.func12, Tryd.ntmps12
        go_wp2
        go_ret
        exact ⟨by rw [HR.out]; rfl, by rw [← hW1]; exact H1.out.2⟩
    · have hb0 : (sn == 0) = false := hb
      rw [hb] at HR
      clear hb
      have HR : Hid (R = false) := Lib.hid (by rw [HR.out]; simp)
      go_enter Tryd.func12, Tryd.ntmps12
      go_wp2
      go_ret
      exact ⟨by rw [HR.out]; rfl, by rw [← hW1]; exact H1.out.2⟩
  by_cases k5 : kd = 5
  · have HR := Lib.hid (r5 k5)
    have g1 : (kd == 1) = false := by rw [beq_eq_false_iff_ne]; omega
    have g2 : (kd == 2) = false := by rw [beq_eq_false_iff_ne]; omega
    have g3 : (kd == 3) = false := by rw [beq_eq_false_iff_ne]; omega
    have g4 : (kd == 4) = false := by rw [beq_eq_false_iff_ne]; omega
    have g5 : (kd == 5) = true := by rw [beq_iff_eq]; omega
    clear r1 r2 r3 r4 r5 r6 k1 k2 k3 k4 k5
    rcases Bool.eq_false_or_eq_true ((sn == 0)) with hb | hb
    · have hb0 : (sn == 0) = true := hb
      rw [hb] at HR
      clear hb
      go_enter Tryd.func12, Tryd.ntmps12
      have HC := Lib.hid (token15_any nm (by omega) W1)
      rw [hW1] at HC
      go_wp2_with fail
      refine HC.out.mono ?_
      rintro e wz ⟨rfl, hw⟩
      rw [hw]
      clear hw wz HC
      rcases Bool.eq_false_or_eq_true (tokF nm) with hb | hb
      · rw [hb] at HR ⊢
        clear hb
        have HC := Lib.hid (token15_any vl (by omega) W1)
        rw [hW1] at HC
        go_wp2_with fail
        refine HC.out.mono ?_
        rintro e wz ⟨rfl, hw⟩
        rw [hw]
        clear hw wz HC
        rcases Bool.eq_false_or_eq_true (tokF vl) with hb | hb
        · rw [hb] at HR ⊢
          clear hb
          have HC := Lib.hid (isown_any vl hlv W1)
          rw [hW1] at HC
          go_wp2_with fail
          refine HC.out.mono ?_
          rintro e V3 ⟨rfl, hB⟩
          rw [← hW1] at hB
          have hrow := H1.out.1.below hB H1.out.1.lt
          have x0 : V3.cell? ⟨w.heap.size, 0, none⟩ = some (.int .i64 kd) := cell_of_row V3 _ 0 _ _ (0, 0) hrow
          have x1 : V3.cell? ⟨w.heap.size, 1, none⟩ = some (S nm) := cell_of_row V3 _ 1 _ _ (0, 0) hrow
          have x2 : V3.cell? ⟨w.heap.size, 2, none⟩ = some (S vl) := cell_of_row V3 _ 2 _ _ (0, 0) hrow
          have x3 : V3.cell? ⟨w.heap.size, 3, none⟩ = some (.int .i64 sn) := cell_of_row V3 _ 3 _ _ (0, 0) hrow
          have HV3 := Lib.hid (And.intro hrow (H1.out.2.trans (hB.mono H1.out.2.size)))
          clear hB hrow HC
          rcases Bool.eq_false_or_eq_true (ownN vl) with hb | hb
          · rw [hb] at HR ⊢
            clear hb
            have HR : Hid (R = false) := Lib.hid (by rw [HR.out]; simp)
            go_wp2
            go_ret
            exact ⟨by rw [HR.out]; rfl, HV3.out.2⟩
          · rw [hb] at HR ⊢
            clear hb
            have HR : Hid (R = true) := Lib.hid (by rw [HR.out]; simp)
            go_wp2
            go_ret
            exact ⟨by rw [HR.out]; rfl, HV3.out.2⟩
        · rw [hb] at HR ⊢
          clear hb
          have HR : Hid (R = false) := Lib.hid (by rw [HR.out]; simp)
          go_wp2
          go_ret
          exact ⟨by rw [HR.out]; rfl, by rw [← hW1]; exact H1.out.2⟩
      · rw [hb] at HR ⊢
        clear hb
        have HR : Hid (R = false) := Lib.hid (by rw [HR.out]; simp)
        go_wp2
        go_ret
        exact ⟨by rw [HR.out]; rfl, by rw [← hW1]; exact H1.out.2⟩
    · have hb0 : (sn == 0) = false := hb
      rw [hb] at HR
      clear hb
      have HR : Hid (R = false) := Lib.hid (by rw [HR.out]; simp)
      go_enter Tryd.func12, Tryd.ntmps12
      go_wp2
      go_ret
      exact ⟨by rw [HR.out]; rfl, by rw [← hW1]; exact H1.out.2⟩
  have HR := Lib.hid (r6 k1 k2 k3 k4 k5)
  have g1 : (kd == 1) = false := by rw [beq_eq_false_iff_ne]; omega
  have g2 : (kd == 2) = false := by rw [beq_eq_false_iff_ne]; omega
  have g3 : (kd == 3) = false := by rw [beq_eq_false_iff_ne]; omega
  have g4 : (kd == 4) = false := by rw [beq_eq_false_iff_ne]; omega
  have g5 : (kd == 5) = false := by rw [beq_eq_false_iff_ne]; omega
  clear r1 r2 r3 r4 r5 r6 k1 k2 k3 k4 k5
  go_enter Tryd.func12, Tryd.ntmps12
  go_wp2
  go_ret
  exact ⟨by rw [HR.out]; rfl, by rw [← hW1]; exact H1.out.2⟩

end Go.Proofs.YtbnlkjoblngakaaDoor
